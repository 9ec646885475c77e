/- Walks: awake. -/
import Derived.Test.YtidhffaphbiapaaPi
namespace Go.Proofs.Ytidhffaphbiapaa
open F Go.RowKit

section
variable {ops : Array Oper} {o : Oper} {a : Act} {S : World → Prop}
theorem y8 (hw : Region.wanted o (yielded ops a.tmps) = true) (x : Operand) (ho : o.op = .load 5 x) (b i : Nat) (hx : a.eval x = .pointer (some ⟨b, i, none⟩)) (f : Nat → Nat) (hB : ∀ w', S w' → Blk w' b (vals .u8 32 f) 22) (hi : i < 32) (v : Nat) (hv : f i = v) : YieldsIf Try.prog ops S o (.int .u8 ((v : Nat) : Int)) a :=
  Or.inl ⟨hw, fun w hSw => by
    have hc := ((hB w hSw).cell i).trans (vals_get _ _ _ _ hi)
    rw [hv] at hc
    unfold execOp
    simp only [ho, hx]
    go_simp⟩
theorem yeq (hw : Region.wanted o (yielded ops a.tmps) = true) (x y : Operand) (f g : Nat → Nat) (ho : o.op = .binOp .eql 22 x y 22) (hx : a.eval x = .agg (vals .u8 32 f)) (hy : a.eval y = .agg (vals .u8 32 g)) (h : sameB f g = true) : YieldsIf Try.prog ops S o (.bool true) a :=
  Or.inl ⟨hw, fun w _ => by rw [eql_c x y f g w ho hx hy, h]⟩
end
def aw1Op0 : Oper := { dst := some 8, op := Op.build 22 #[(0, Operand.const (Value.int IntKind.u8 165)), (1, Operand.const (Value.int IntKind.u8 70)), (2, Operand.const (Value.int IntKind.u8 227)), (3, Operand.const (Value.int IntKind.u8 107)), (4, Operand.const (Value.int IntKind.u8 240)), (5, Operand.const (Value.int IntKind.u8 82)), (6, Operand.const (Value.int IntKind.u8 124)), (7, Operand.const (Value.int IntKind.u8 157)), (8, Operand.const (Value.int IntKind.u8 59)), (9, Operand.const (Value.int IntKind.u8 22)), (10, Operand.const (Value.int IntKind.u8 21)), (11, Operand.const (Value.int IntKind.u8 75)), (12, Operand.const (Value.int IntKind.u8 130)), (13, Operand.const (Value.int IntKind.u8 70)), (14, Operand.const (Value.int IntKind.u8 94)), (15, Operand.const (Value.int IntKind.u8 221)), (16, Operand.const (Value.int IntKind.u8 98)), (17, Operand.const (Value.int IntKind.u8 20)), (18, Operand.const (Value.int IntKind.u8 76)), (19, Operand.const (Value.int IntKind.u8 10)), (20, Operand.const (Value.int IntKind.u8 193)), (21, Operand.const (Value.int IntKind.u8 252)), (22, Operand.const (Value.int IntKind.u8 90)), (23, Operand.const (Value.int IntKind.u8 24)), (24, Operand.const (Value.int IntKind.u8 80)), (25, Operand.const (Value.int IntKind.u8 106)), (26, Operand.const (Value.int IntKind.u8 34)), (27, Operand.const (Value.int IntKind.u8 68)), (28, Operand.const (Value.int IntKind.u8 186)), (29, Operand.const (Value.int IntKind.u8 68)), (30, Operand.const (Value.int IntKind.u8 154)), (31, Operand.const (Value.int IntKind.u8 196))], type := 22, pos := "law.go:12", after := #[], guard := none }
def aw1Op1 : Oper := { dst := some 1, op := Op.alloc 22, type := 0, pos := "law.go:12", after := #[], guard := none }
def aw1Op2 : Oper := { dst := none, op := Op.store 22 (Operand.tmp 1) (Operand.tmp 8), type := 0, pos := "law.go:12", after := #[{ on := 1, ground := Ground.data }, { on := 0, ground := Ground.data }, { on := 0, ground := Ground.phase }, { on := 1, ground := Ground.phase }], guard := none }
def aw1Ops : Array Oper := #[aw1Op0, aw1Op1, aw1Op2]
set_option maxRecDepth 100000 in
set_option maxHeartbeats 2000000 in
theorem aw1_region (Q : Exit → Act → World → Prop) (hQ : ∀ c a w n v, Q (.panic c) (a.put (some n) v) w → Q (.panic c) a w) (u : World) (z0 z1 z2 z3 z4 z5 z6 z7 z8 : Value) (zz : List Value) (H : ∀ (n1 : Nat) (w : World), Kp [] u w → u.heap.size ≤ n1 → Blk w n1 (vals .u8 32 secB) 22 → Q .normal { tmps := List.toArray (z0 :: (.pointer (some ⟨n1, 0, none⟩)) :: z2 :: z3 :: z4 :: z5 :: z6 :: z7 :: (.agg (vals .u8 32 secB)) :: zz), defers := [] } w) :
    (Code.region 1 aw1Ops false).wp Try.prog Q { tmps := List.toArray (z0 :: z1 :: z2 :: z3 :: z4 :: z5 :: z6 :: z7 :: z8 :: zz), defers := [] } u := by
  have _ := hQ
  have _ := u
  have _ := z0
  have _ := z1
  have _ := z2
  have _ := z3
  have _ := z4
  have _ := z5
  have _ := z6
  have _ := z7
  have _ := z8
  have _ := zz
  refine wp_region_list (show wpList _ aw1Ops _ [aw1Op0, aw1Op1, aw1Op2] _ _ from ?_)
  have hS : Kp [] u u := Kp.refl _ u
  refine wpList_plain rfl (fun K hK => ?_)
  refine wp_val (.agg (vals .u8 32 secB)) (by kernel_rfl) ?_
  have hS' := hS
  refine hK _ _ ?_
  clear hK K
  clear hS
  have hS := hS'
  clear hS'
  refine wpList_fr (a' := { tmps := List.toArray (z0 :: z1 :: z2 :: z3 :: z4 :: z5 :: z6 :: z7 :: (.agg (vals .u8 32 secB)) :: zz), defers := [] }) (by kernel_rfl) ?_
  refine wpList_plain rfl (fun K hK => ?_)
  refine wp_new _ 22 (alloc_by _ _ _ rfl) ?_
  intro n1 w1 eb Bn1 hbw
  have hS' := hS.call hbw
  refine hK _ _ ?_
  clear hK K
  have qgn1 : u.heap.size ≤ n1 := (by rw [eb]; exact hS.size)
  have qBn1 : Blk w1 n1 (vals .u8 32 (fun _ => 0)) 22 := Bn1
  clear hS
  have gn1 := qgn1
  have Bn1 := qBn1
  have hS := hS'
  clear hS' qgn1 qBn1
  refine wpList_fr (a' := { tmps := List.toArray (z0 :: (.pointer (some ⟨n1, 0, none⟩)) :: z2 :: z3 :: z4 :: z5 :: z6 :: z7 :: (.agg (vals .u8 32 secB)) :: zz), defers := [] }) (by kernel_rfl) ?_
  refine wpList_plain rfl (fun K hK => ?_)
  refine wp_store_row 22 _ _ rfl n1 (vals .u8 32 secB) (by kernel_rfl) (by kernel_rfl) 22 _ Bn1 (size_by _) (by rw [vals_size, vals_size]) (vals_one _ _ _) ?_
  have hS' := hS.new gn1 (vals .u8 32 secB)
  refine hK _ _ ?_
  clear hK K
  have qgn1 : u.heap.size ≤ n1 := gn1
  have qBn1 : Blk (w1.setRow n1 (vals .u8 32 secB)) n1 (vals .u8 32 secB) 22 := (Bn1.row (vals .u8 32 secB))
  clear hS gn1 Bn1
  have gn1 := qgn1
  have Bn1 := qBn1
  have hS := hS'
  clear hS' qgn1 qBn1
  refine wpList_fr (a' := { tmps := List.toArray (z0 :: (.pointer (some ⟨n1, 0, none⟩)) :: z2 :: z3 :: z4 :: z5 :: z6 :: z7 :: (.agg (vals .u8 32 secB)) :: zz), defers := [] }) (by kernel_rfl) ?_
  generalize (w1.setRow n1 (vals .u8 32 secB)) = w2 at *
  refine wpList_nil ?_
  exact H n1 w2 hS gn1 Bn1
def aw2Op0 : Oper := { dst := some 9, op := Op.build 22 #[(0, Operand.const (Value.int IntKind.u8 230)), (1, Operand.const (Value.int IntKind.u8 219)), (2, Operand.const (Value.int IntKind.u8 104)), (3, Operand.const (Value.int IntKind.u8 103)), (4, Operand.const (Value.int IntKind.u8 88)), (5, Operand.const (Value.int IntKind.u8 48)), (6, Operand.const (Value.int IntKind.u8 48)), (7, Operand.const (Value.int IntKind.u8 219)), (8, Operand.const (Value.int IntKind.u8 53)), (9, Operand.const (Value.int IntKind.u8 148)), (10, Operand.const (Value.int IntKind.u8 193)), (11, Operand.const (Value.int IntKind.u8 164)), (12, Operand.const (Value.int IntKind.u8 36)), (13, Operand.const (Value.int IntKind.u8 177)), (14, Operand.const (Value.int IntKind.u8 95)), (15, Operand.const (Value.int IntKind.u8 124)), (16, Operand.const (Value.int IntKind.u8 114)), (17, Operand.const (Value.int IntKind.u8 102)), (18, Operand.const (Value.int IntKind.u8 36)), (19, Operand.const (Value.int IntKind.u8 236)), (20, Operand.const (Value.int IntKind.u8 38)), (21, Operand.const (Value.int IntKind.u8 179)), (22, Operand.const (Value.int IntKind.u8 53)), (23, Operand.const (Value.int IntKind.u8 59)), (24, Operand.const (Value.int IntKind.u8 16)), (25, Operand.const (Value.int IntKind.u8 169)), (26, Operand.const (Value.int IntKind.u8 3)), (27, Operand.const (Value.int IntKind.u8 166)), (28, Operand.const (Value.int IntKind.u8 208)), (29, Operand.const (Value.int IntKind.u8 171)), (30, Operand.const (Value.int IntKind.u8 28)), (31, Operand.const (Value.int IntKind.u8 76))], type := 22, pos := "law.go:13", after := #[], guard := none }
def aw2Op1 : Oper := { dst := some 2, op := Op.alloc 22, type := 0, pos := "law.go:13", after := #[], guard := none }
def aw2Op2 : Oper := { dst := none, op := Op.store 22 (Operand.tmp 2) (Operand.tmp 9), type := 0, pos := "law.go:13", after := #[{ on := 1, ground := Ground.data }, { on := 0, ground := Ground.data }, { on := 0, ground := Ground.phase }, { on := 1, ground := Ground.phase }], guard := none }
def aw2Ops : Array Oper := #[aw2Op0, aw2Op1, aw2Op2]
set_option maxRecDepth 100000 in
set_option maxHeartbeats 2000000 in
theorem aw2_region (Q : Exit → Act → World → Prop) (hQ : ∀ c a w n v, Q (.panic c) (a.put (some n) v) w → Q (.panic c) a w) (u : World) (z0 z1 z2 z3 z4 z5 z6 z7 z8 z9 : Value) (zz : List Value) (H : ∀ (n2 : Nat) (w : World), Kp [] u w → u.heap.size ≤ n2 → Blk w n2 (vals .u8 32 ptB) 22 → Q .normal { tmps := List.toArray (z0 :: z1 :: (.pointer (some ⟨n2, 0, none⟩)) :: z3 :: z4 :: z5 :: z6 :: z7 :: z8 :: (.agg (vals .u8 32 ptB)) :: zz), defers := [] } w) :
    (Code.region 2 aw2Ops false).wp Try.prog Q { tmps := List.toArray (z0 :: z1 :: z2 :: z3 :: z4 :: z5 :: z6 :: z7 :: z8 :: z9 :: zz), defers := [] } u := by
  have _ := hQ
  have _ := u
  have _ := z0
  have _ := z1
  have _ := z2
  have _ := z3
  have _ := z4
  have _ := z5
  have _ := z6
  have _ := z7
  have _ := z8
  have _ := z9
  have _ := zz
  refine wp_region_list (show wpList _ aw2Ops _ [aw2Op0, aw2Op1, aw2Op2] _ _ from ?_)
  have hS : Kp [] u u := Kp.refl _ u
  refine wpList_plain rfl (fun K hK => ?_)
  refine wp_val (.agg (vals .u8 32 ptB)) (by kernel_rfl) ?_
  have hS' := hS
  refine hK _ _ ?_
  clear hK K
  clear hS
  have hS := hS'
  clear hS'
  refine wpList_fr (a' := { tmps := List.toArray (z0 :: z1 :: z2 :: z3 :: z4 :: z5 :: z6 :: z7 :: z8 :: (.agg (vals .u8 32 ptB)) :: zz), defers := [] }) (by kernel_rfl) ?_
  refine wpList_plain rfl (fun K hK => ?_)
  refine wp_new _ 22 (alloc_by _ _ _ rfl) ?_
  intro n2 w1 eb Bn2 hbw
  have hS' := hS.call hbw
  refine hK _ _ ?_
  clear hK K
  have qgn2 : u.heap.size ≤ n2 := (by rw [eb]; exact hS.size)
  have qBn2 : Blk w1 n2 (vals .u8 32 (fun _ => 0)) 22 := Bn2
  clear hS
  have gn2 := qgn2
  have Bn2 := qBn2
  have hS := hS'
  clear hS' qgn2 qBn2
  refine wpList_fr (a' := { tmps := List.toArray (z0 :: z1 :: (.pointer (some ⟨n2, 0, none⟩)) :: z3 :: z4 :: z5 :: z6 :: z7 :: z8 :: (.agg (vals .u8 32 ptB)) :: zz), defers := [] }) (by kernel_rfl) ?_
  refine wpList_plain rfl (fun K hK => ?_)
  refine wp_store_row 22 _ _ rfl n2 (vals .u8 32 ptB) (by kernel_rfl) (by kernel_rfl) 22 _ Bn2 (size_by _) (by rw [vals_size, vals_size]) (vals_one _ _ _) ?_
  have hS' := hS.new gn2 (vals .u8 32 ptB)
  refine hK _ _ ?_
  clear hK K
  have qgn2 : u.heap.size ≤ n2 := gn2
  have qBn2 : Blk (w1.setRow n2 (vals .u8 32 ptB)) n2 (vals .u8 32 ptB) 22 := (Bn2.row (vals .u8 32 ptB))
  clear hS gn2 Bn2
  have gn2 := qgn2
  have Bn2 := qBn2
  have hS := hS'
  clear hS' qgn2 qBn2
  refine wpList_fr (a' := { tmps := List.toArray (z0 :: z1 :: (.pointer (some ⟨n2, 0, none⟩)) :: z3 :: z4 :: z5 :: z6 :: z7 :: z8 :: (.agg (vals .u8 32 ptB)) :: zz), defers := [] }) (by kernel_rfl) ?_
  generalize (w1.setRow n2 (vals .u8 32 ptB)) = w2 at *
  refine wpList_nil ?_
  exact H n2 w2 hS gn2 Bn2
def aw3Op0 : Oper := { dst := some 10, op := Op.load 22 (Operand.tmp 1), type := 22, pos := "law.go:14", after := #[], guard := none }
def aw3Op1 : Oper := { dst := some 11, op := Op.load 22 (Operand.tmp 2), type := 22, pos := "law.go:14", after := #[], guard := none }
def aw3Op2 : Oper := { dst := some 12, op := Op.call { callee := Callee.value (Operand.func 9), args := #[Operand.tmp 10, Operand.tmp 11], argTypes := #[22, 22] }, type := 22, pos := "law.go:14", after := #[{ on := 0, ground := Ground.data }, { on := 1, ground := Ground.data }], guard := none }
def aw3Op3 : Oper := { dst := some 3, op := Op.alloc 22, type := 0, pos := "law.go:14", after := #[], guard := none }
def aw3Op4 : Oper := { dst := none, op := Op.store 22 (Operand.tmp 3) (Operand.tmp 12), type := 0, pos := "law.go:14", after := #[{ on := 3, ground := Ground.data }, { on := 2, ground := Ground.data }, { on := 2, ground := Ground.chain }, { on := 0, ground := Ground.phase }, { on := 1, ground := Ground.phase }, { on := 2, ground := Ground.phase }, { on := 3, ground := Ground.phase }], guard := none }
def aw3Ops : Array Oper := #[aw3Op0, aw3Op1, aw3Op2, aw3Op3, aw3Op4]
set_option maxRecDepth 100000 in
set_option maxHeartbeats 2000000 in
theorem aw3_region (Q : Exit → Act → World → Prop) (hQ : ∀ c a w n v, Q (.panic c) (a.put (some n) v) w → Q (.panic c) a w) (u : World) (z0 z3 z4 z5 z6 z7 z8 z9 z10 z11 z12 : Value) (zz : List Value) (b1 b2 : Nat) (hb1 : Blk u b1 (vals .u8 32 secB) 22) (nb1 : b1 ∉ ([] : List Nat)) (hb2 : Blk u b2 (vals .u8 32 ptB) 22) (nb2 : b2 ∉ ([] : List Nat)) (H : ∀ (n3 : Nat) (w : World), Kp [] u w → u.heap.size ≤ n3 → Blk w n3 (vals .u8 32 (byt (xm secB ptB))) 22 → Q .normal { tmps := List.toArray (z0 :: (.pointer (some ⟨b1, 0, none⟩)) :: (.pointer (some ⟨b2, 0, none⟩)) :: (.pointer (some ⟨n3, 0, none⟩)) :: z4 :: z5 :: z6 :: z7 :: z8 :: z9 :: (.agg (vals .u8 32 secB)) :: (.agg (vals .u8 32 ptB)) :: (.agg (vals .u8 32 (byt (xm secB ptB)))) :: zz), defers := [] } w) :
    (Code.region 3 aw3Ops false).wp Try.prog Q { tmps := List.toArray (z0 :: (.pointer (some ⟨b1, 0, none⟩)) :: (.pointer (some ⟨b2, 0, none⟩)) :: z3 :: z4 :: z5 :: z6 :: z7 :: z8 :: z9 :: z10 :: z11 :: z12 :: zz), defers := [] } u := by
  have _ := hQ
  have _ := u
  have _ := z0
  have _ := z3
  have _ := z4
  have _ := z5
  have _ := z6
  have _ := z7
  have _ := z8
  have _ := z9
  have _ := z10
  have _ := z11
  have _ := z12
  have _ := zz
  have _ := b1
  have _ := b2
  have _ := hb1
  have _ := nb1
  have _ := hb2
  have _ := nb2
  refine wp_region_list (show wpList _ aw3Ops _ [aw3Op0, aw3Op1, aw3Op2, aw3Op3, aw3Op4] _ _ from ?_)
  have hS : Kp [] u u := Kp.refl _ u
  refine wpList_plain rfl (fun K hK => ?_)
  refine wp_load_row 22 _ rfl b1 (by kernel_rfl) 22 _ (0, 0) _ (hS.keep _ _ _ nb1 hb1) Try.underlying22 rfl (size_by _) ?_
  have hS' := hS
  refine hK _ _ ?_
  clear hK K
  clear hS
  have hS := hS'
  clear hS'
  refine wpList_fr (a' := { tmps := List.toArray (z0 :: (.pointer (some ⟨b1, 0, none⟩)) :: (.pointer (some ⟨b2, 0, none⟩)) :: z3 :: z4 :: z5 :: z6 :: z7 :: z8 :: z9 :: (.agg (vals .u8 32 secB)) :: z11 :: z12 :: zz), defers := [] }) (by kernel_rfl) ?_
  refine wpList_plain rfl (fun K hK => ?_)
  refine wp_load_row 22 _ rfl b2 (by kernel_rfl) 22 _ (0, 0) _ (hS.keep _ _ _ nb2 hb2) Try.underlying22 rfl (size_by _) ?_
  have hS' := hS
  refine hK _ _ ?_
  clear hK K
  clear hS
  have hS := hS'
  clear hS'
  refine wpList_fr (a' := { tmps := List.toArray (z0 :: (.pointer (some ⟨b1, 0, none⟩)) :: (.pointer (some ⟨b2, 0, none⟩)) :: z3 :: z4 :: z5 :: z6 :: z7 :: z8 :: z9 :: (.agg (vals .u8 32 secB)) :: (.agg (vals .u8 32 ptB)) :: z12 :: zz), defers := [] }) (by kernel_rfl) ?_
  refine wpList_plain rfl (fun K hK => ?_)
  refine wp_call_val 9 #[.agg (vals .u8 32 secB), .agg (vals .u8 32 ptB)] (by kernel_rfl) (.agg (vals .u8 32 (byt (xm secB ptB)))) (mul_c9 secB ptB _ secB_lt ptB_lt) ?_
  intro w2 hbw
  have hS' := hS.call hbw
  refine hK _ _ ?_
  clear hK K
  clear hS
  have hS := hS'
  clear hS'
  refine wpList_fr (a' := { tmps := List.toArray (z0 :: (.pointer (some ⟨b1, 0, none⟩)) :: (.pointer (some ⟨b2, 0, none⟩)) :: z3 :: z4 :: z5 :: z6 :: z7 :: z8 :: z9 :: (.agg (vals .u8 32 secB)) :: (.agg (vals .u8 32 ptB)) :: (.agg (vals .u8 32 (byt (xm secB ptB)))) :: zz), defers := [] }) (by kernel_rfl) ?_
  refine wpList_plain rfl (fun K hK => ?_)
  refine wp_new _ 22 (alloc_by _ _ _ rfl) ?_
  intro n3 w3 eb Bn3 hbw
  have hS' := hS.call hbw
  refine hK _ _ ?_
  clear hK K
  have qgn3 : u.heap.size ≤ n3 := (by rw [eb]; exact hS.size)
  have qBn3 : Blk w3 n3 (vals .u8 32 (fun _ => 0)) 22 := Bn3
  clear hS
  have gn3 := qgn3
  have Bn3 := qBn3
  have hS := hS'
  clear hS' qgn3 qBn3
  refine wpList_fr (a' := { tmps := List.toArray (z0 :: (.pointer (some ⟨b1, 0, none⟩)) :: (.pointer (some ⟨b2, 0, none⟩)) :: (.pointer (some ⟨n3, 0, none⟩)) :: z4 :: z5 :: z6 :: z7 :: z8 :: z9 :: (.agg (vals .u8 32 secB)) :: (.agg (vals .u8 32 ptB)) :: (.agg (vals .u8 32 (byt (xm secB ptB)))) :: zz), defers := [] }) (by kernel_rfl) ?_
  refine wpList_plain rfl (fun K hK => ?_)
  refine wp_store_row 22 _ _ rfl n3 (vals .u8 32 (byt (xm secB ptB))) (by kernel_rfl) (by kernel_rfl) 22 _ Bn3 (size_by _) (by rw [vals_size, vals_size]) (vals_one _ _ _) ?_
  have hS' := hS.new gn3 (vals .u8 32 (byt (xm secB ptB)))
  refine hK _ _ ?_
  clear hK K
  have qgn3 : u.heap.size ≤ n3 := gn3
  have qBn3 : Blk (w3.setRow n3 (vals .u8 32 (byt (xm secB ptB)))) n3 (vals .u8 32 (byt (xm secB ptB))) 22 := (Bn3.row (vals .u8 32 (byt (xm secB ptB))))
  clear hS gn3 Bn3
  have gn3 := qgn3
  have Bn3 := qBn3
  have hS := hS'
  clear hS' qgn3 qBn3
  refine wpList_fr (a' := { tmps := List.toArray (z0 :: (.pointer (some ⟨b1, 0, none⟩)) :: (.pointer (some ⟨b2, 0, none⟩)) :: (.pointer (some ⟨n3, 0, none⟩)) :: z4 :: z5 :: z6 :: z7 :: z8 :: z9 :: (.agg (vals .u8 32 secB)) :: (.agg (vals .u8 32 ptB)) :: (.agg (vals .u8 32 (byt (xm secB ptB)))) :: zz), defers := [] }) (by kernel_rfl) ?_
  generalize (w3.setRow n3 (vals .u8 32 (byt (xm secB ptB)))) = w4 at *
  refine wpList_nil ?_
  exact H n3 w4 hS gn3 Bn3
def aw4Op0 : Oper := { dst := some 14, op := Op.load 22 (Operand.tmp 1), type := 22, pos := "law.go:15", after := #[], guard := none }
def aw4Op1 : Oper := { dst := some 15, op := Op.load 22 (Operand.tmp 2), type := 22, pos := "law.go:15", after := #[], guard := none }
def aw4Op2 : Oper := { dst := some 16, op := Op.call { callee := Callee.value (Operand.func 11), args := #[Operand.tmp 14, Operand.tmp 15], argTypes := #[22, 22] }, type := 25, pos := "law.go:15", after := #[{ on := 0, ground := Ground.data }, { on := 1, ground := Ground.data }], guard := none }
def aw4Op3 : Oper := { dst := some 13, op := Op.move (Operand.tmp 16), type := 25, pos := "law.go:15", after := #[{ on := 2, ground := Ground.data }], guard := none }
def aw4Op4 : Oper := { dst := some 17, op := Op.extract (Operand.tmp 13) 0, type := 22, pos := "law.go:15", after := #[{ on := 3, ground := Ground.data }], guard := none }
def aw4Op5 : Oper := { dst := some 18, op := Op.extract (Operand.tmp 13) 1, type := 4, pos := "law.go:15", after := #[{ on := 3, ground := Ground.data }, { on := 7, ground := Ground.gcOnly Departure.lateStores }], guard := none }
def aw4Op6 : Oper := { dst := some 4, op := Op.alloc 22, type := 0, pos := "law.go:15", after := #[], guard := none }
def aw4Op7 : Oper := { dst := none, op := Op.store 22 (Operand.tmp 4) (Operand.tmp 17), type := 0, pos := "law.go:15", after := #[{ on := 6, ground := Ground.data }, { on := 4, ground := Ground.data }, { on := 2, ground := Ground.chain }, { on := 0, ground := Ground.phase }, { on := 1, ground := Ground.phase }, { on := 2, ground := Ground.phase }, { on := 3, ground := Ground.phase }, { on := 4, ground := Ground.phase }, { on := 5, ground := Ground.textOnly Departure.lateStores }, { on := 6, ground := Ground.phase }], guard := none }
def aw4Op8 : Oper := { dst := some 5, op := Op.assign (Operand.tmp 18), type := 4, pos := "law.go:15", after := #[{ on := 5, ground := Ground.data }, { on := 7, ground := Ground.chain }, { on := 0, ground := Ground.phase }, { on := 1, ground := Ground.phase }, { on := 2, ground := Ground.phase }, { on := 3, ground := Ground.phase }, { on := 4, ground := Ground.phase }, { on := 5, ground := Ground.phase }, { on := 6, ground := Ground.phase }, { on := 7, ground := Ground.phase }], guard := none }
def aw4Ops : Array Oper := #[aw4Op0, aw4Op1, aw4Op2, aw4Op3, aw4Op4, aw4Op5, aw4Op6, aw4Op7, aw4Op8]
set_option maxRecDepth 100000 in
set_option maxHeartbeats 2000000 in
theorem aw4_region (Q : Exit → Act → World → Prop) (hQ : ∀ c a w n v, Q (.panic c) (a.put (some n) v) w → Q (.panic c) a w) (u : World) (z0 z3 z4 z5 z6 z7 z8 z9 z10 z11 z12 z13 z14 z15 z16 z17 z18 : Value) (zz : List Value) (b1 b2 : Nat) (hb1 : Blk u b1 (vals .u8 32 secB) 22) (nb1 : b1 ∉ ([] : List Nat)) (hb2 : Blk u b2 (vals .u8 32 ptB) 22) (nb2 : b2 ∉ ([] : List Nat)) (H : ∀ (n4 : Nat) (w : World), Kp [] u w → u.heap.size ≤ n4 → Blk w n4 (vals .u8 32 (byt (xm secB ptB))) 22 → Q .normal { tmps := List.toArray (z0 :: (.pointer (some ⟨b1, 0, none⟩)) :: (.pointer (some ⟨b2, 0, none⟩)) :: z3 :: (.pointer (some ⟨n4, 0, none⟩)) :: (.bool (decide (xm secB ptB ≠ 0))) :: z6 :: z7 :: z8 :: z9 :: z10 :: z11 :: z12 :: (.tuple #[.agg (vals .u8 32 (byt (xm secB ptB))), .bool (decide (xm secB ptB ≠ 0))]) :: (.agg (vals .u8 32 secB)) :: (.agg (vals .u8 32 ptB)) :: (.tuple #[.agg (vals .u8 32 (byt (xm secB ptB))), .bool (decide (xm secB ptB ≠ 0))]) :: (.agg (vals .u8 32 (byt (xm secB ptB)))) :: (.bool (decide (xm secB ptB ≠ 0))) :: zz), defers := [] } w) :
    (Code.region 4 aw4Ops false).wp Try.prog Q { tmps := List.toArray (z0 :: (.pointer (some ⟨b1, 0, none⟩)) :: (.pointer (some ⟨b2, 0, none⟩)) :: z3 :: z4 :: z5 :: z6 :: z7 :: z8 :: z9 :: z10 :: z11 :: z12 :: z13 :: z14 :: z15 :: z16 :: z17 :: z18 :: zz), defers := [] } u := by
  have _ := hQ
  have _ := u
  have _ := z0
  have _ := z3
  have _ := z4
  have _ := z5
  have _ := z6
  have _ := z7
  have _ := z8
  have _ := z9
  have _ := z10
  have _ := z11
  have _ := z12
  have _ := z13
  have _ := z14
  have _ := z15
  have _ := z16
  have _ := z17
  have _ := z18
  have _ := zz
  have _ := b1
  have _ := b2
  have _ := hb1
  have _ := nb1
  have _ := hb2
  have _ := nb2
  refine wp_region_list (show wpList _ aw4Ops _ [aw4Op0, aw4Op1, aw4Op2, aw4Op3, aw4Op4, aw4Op5, aw4Op6, aw4Op7, aw4Op8] _ _ from ?_)
  have hS : Kp [] u u := Kp.refl _ u
  refine wpList_plain rfl (fun K hK => ?_)
  refine wp_load_row 22 _ rfl b1 (by kernel_rfl) 22 _ (0, 0) _ (hS.keep _ _ _ nb1 hb1) Try.underlying22 rfl (size_by _) ?_
  have hS' := hS
  refine hK _ _ ?_
  clear hK K
  clear hS
  have hS := hS'
  clear hS'
  refine wpList_fr (a' := { tmps := List.toArray (z0 :: (.pointer (some ⟨b1, 0, none⟩)) :: (.pointer (some ⟨b2, 0, none⟩)) :: z3 :: z4 :: z5 :: z6 :: z7 :: z8 :: z9 :: z10 :: z11 :: z12 :: z13 :: (.agg (vals .u8 32 secB)) :: z15 :: z16 :: z17 :: z18 :: zz), defers := [] }) (by kernel_rfl) ?_
  refine wpList_plain rfl (fun K hK => ?_)
  refine wp_load_row 22 _ rfl b2 (by kernel_rfl) 22 _ (0, 0) _ (hS.keep _ _ _ nb2 hb2) Try.underlying22 rfl (size_by _) ?_
  have hS' := hS
  refine hK _ _ ?_
  clear hK K
  clear hS
  have hS := hS'
  clear hS'
  refine wpList_fr (a' := { tmps := List.toArray (z0 :: (.pointer (some ⟨b1, 0, none⟩)) :: (.pointer (some ⟨b2, 0, none⟩)) :: z3 :: z4 :: z5 :: z6 :: z7 :: z8 :: z9 :: z10 :: z11 :: z12 :: z13 :: (.agg (vals .u8 32 secB)) :: (.agg (vals .u8 32 ptB)) :: z16 :: z17 :: z18 :: zz), defers := [] }) (by kernel_rfl) ?_
  refine wpList_plain rfl (fun K hK => ?_)
  refine wp_call_val 11 #[.agg (vals .u8 32 secB), .agg (vals .u8 32 ptB)] (by kernel_rfl) (.tuple #[.agg (vals .u8 32 (byt (xm secB ptB))), .bool (decide (xm secB ptB ≠ 0))]) (shared_c secB ptB _ secB_lt ptB_lt) ?_
  intro w2 hbw
  have hS' := hS.call hbw
  refine hK _ _ ?_
  clear hK K
  clear hS
  have hS := hS'
  clear hS'
  refine wpList_fr (a' := { tmps := List.toArray (z0 :: (.pointer (some ⟨b1, 0, none⟩)) :: (.pointer (some ⟨b2, 0, none⟩)) :: z3 :: z4 :: z5 :: z6 :: z7 :: z8 :: z9 :: z10 :: z11 :: z12 :: z13 :: (.agg (vals .u8 32 secB)) :: (.agg (vals .u8 32 ptB)) :: (.tuple #[.agg (vals .u8 32 (byt (xm secB ptB))), .bool (decide (xm secB ptB ≠ 0))]) :: z17 :: z18 :: zz), defers := [] }) (by kernel_rfl) ?_
  refine wpList_plain rfl (fun K hK => ?_)
  refine wp_val (.tuple #[.agg (vals .u8 32 (byt (xm secB ptB))), .bool (decide (xm secB ptB ≠ 0))]) (by kernel_rfl) ?_
  have hS' := hS
  refine hK _ _ ?_
  clear hK K
  clear hS
  have hS := hS'
  clear hS'
  refine wpList_fr (a' := { tmps := List.toArray (z0 :: (.pointer (some ⟨b1, 0, none⟩)) :: (.pointer (some ⟨b2, 0, none⟩)) :: z3 :: z4 :: z5 :: z6 :: z7 :: z8 :: z9 :: z10 :: z11 :: z12 :: (.tuple #[.agg (vals .u8 32 (byt (xm secB ptB))), .bool (decide (xm secB ptB ≠ 0))]) :: (.agg (vals .u8 32 secB)) :: (.agg (vals .u8 32 ptB)) :: (.tuple #[.agg (vals .u8 32 (byt (xm secB ptB))), .bool (decide (xm secB ptB ≠ 0))]) :: z17 :: z18 :: zz), defers := [] }) (by kernel_rfl) ?_
  refine wpList_plain rfl (fun K hK => ?_)
  refine wp_val (.agg (vals .u8 32 (byt (xm secB ptB)))) (by kernel_rfl) ?_
  have hS' := hS
  refine hK _ _ ?_
  clear hK K
  clear hS
  have hS := hS'
  clear hS'
  refine wpList_fr (a' := { tmps := List.toArray (z0 :: (.pointer (some ⟨b1, 0, none⟩)) :: (.pointer (some ⟨b2, 0, none⟩)) :: z3 :: z4 :: z5 :: z6 :: z7 :: z8 :: z9 :: z10 :: z11 :: z12 :: (.tuple #[.agg (vals .u8 32 (byt (xm secB ptB))), .bool (decide (xm secB ptB ≠ 0))]) :: (.agg (vals .u8 32 secB)) :: (.agg (vals .u8 32 ptB)) :: (.tuple #[.agg (vals .u8 32 (byt (xm secB ptB))), .bool (decide (xm secB ptB ≠ 0))]) :: (.agg (vals .u8 32 (byt (xm secB ptB)))) :: z18 :: zz), defers := [] }) (by kernel_rfl) ?_
  refine wpList_plain rfl (fun K hK => ?_)
  refine wp_val (.bool (decide (xm secB ptB ≠ 0))) (by kernel_rfl) ?_
  have hS' := hS
  refine hK _ _ ?_
  clear hK K
  clear hS
  have hS := hS'
  clear hS'
  refine wpList_fr (a' := { tmps := List.toArray (z0 :: (.pointer (some ⟨b1, 0, none⟩)) :: (.pointer (some ⟨b2, 0, none⟩)) :: z3 :: z4 :: z5 :: z6 :: z7 :: z8 :: z9 :: z10 :: z11 :: z12 :: (.tuple #[.agg (vals .u8 32 (byt (xm secB ptB))), .bool (decide (xm secB ptB ≠ 0))]) :: (.agg (vals .u8 32 secB)) :: (.agg (vals .u8 32 ptB)) :: (.tuple #[.agg (vals .u8 32 (byt (xm secB ptB))), .bool (decide (xm secB ptB ≠ 0))]) :: (.agg (vals .u8 32 (byt (xm secB ptB)))) :: (.bool (decide (xm secB ptB ≠ 0))) :: zz), defers := [] }) (by kernel_rfl) ?_
  refine wpList_plain rfl (fun K hK => ?_)
  refine wp_new _ 22 (alloc_by _ _ _ rfl) ?_
  intro n4 w6 eb Bn4 hbw
  have hS' := hS.call hbw
  refine hK _ _ ?_
  clear hK K
  have qgn4 : u.heap.size ≤ n4 := (by rw [eb]; exact hS.size)
  have qBn4 : Blk w6 n4 (vals .u8 32 (fun _ => 0)) 22 := Bn4
  clear hS
  have gn4 := qgn4
  have Bn4 := qBn4
  have hS := hS'
  clear hS' qgn4 qBn4
  refine wpList_fr (a' := { tmps := List.toArray (z0 :: (.pointer (some ⟨b1, 0, none⟩)) :: (.pointer (some ⟨b2, 0, none⟩)) :: z3 :: (.pointer (some ⟨n4, 0, none⟩)) :: z5 :: z6 :: z7 :: z8 :: z9 :: z10 :: z11 :: z12 :: (.tuple #[.agg (vals .u8 32 (byt (xm secB ptB))), .bool (decide (xm secB ptB ≠ 0))]) :: (.agg (vals .u8 32 secB)) :: (.agg (vals .u8 32 ptB)) :: (.tuple #[.agg (vals .u8 32 (byt (xm secB ptB))), .bool (decide (xm secB ptB ≠ 0))]) :: (.agg (vals .u8 32 (byt (xm secB ptB)))) :: (.bool (decide (xm secB ptB ≠ 0))) :: zz), defers := [] }) (by kernel_rfl) ?_
  refine wpList_plain rfl (fun K hK => ?_)
  refine wp_store_row 22 _ _ rfl n4 (vals .u8 32 (byt (xm secB ptB))) (by kernel_rfl) (by kernel_rfl) 22 _ Bn4 (size_by _) (by rw [vals_size, vals_size]) (vals_one _ _ _) ?_
  have hS' := hS.new gn4 (vals .u8 32 (byt (xm secB ptB)))
  refine hK _ _ ?_
  clear hK K
  have qgn4 : u.heap.size ≤ n4 := gn4
  have qBn4 : Blk (w6.setRow n4 (vals .u8 32 (byt (xm secB ptB)))) n4 (vals .u8 32 (byt (xm secB ptB))) 22 := (Bn4.row (vals .u8 32 (byt (xm secB ptB))))
  clear hS gn4 Bn4
  have gn4 := qgn4
  have Bn4 := qBn4
  have hS := hS'
  clear hS' qgn4 qBn4
  refine wpList_fr (a' := { tmps := List.toArray (z0 :: (.pointer (some ⟨b1, 0, none⟩)) :: (.pointer (some ⟨b2, 0, none⟩)) :: z3 :: (.pointer (some ⟨n4, 0, none⟩)) :: z5 :: z6 :: z7 :: z8 :: z9 :: z10 :: z11 :: z12 :: (.tuple #[.agg (vals .u8 32 (byt (xm secB ptB))), .bool (decide (xm secB ptB ≠ 0))]) :: (.agg (vals .u8 32 secB)) :: (.agg (vals .u8 32 ptB)) :: (.tuple #[.agg (vals .u8 32 (byt (xm secB ptB))), .bool (decide (xm secB ptB ≠ 0))]) :: (.agg (vals .u8 32 (byt (xm secB ptB)))) :: (.bool (decide (xm secB ptB ≠ 0))) :: zz), defers := [] }) (by kernel_rfl) ?_
  generalize (w6.setRow n4 (vals .u8 32 (byt (xm secB ptB)))) = w7 at *
  refine wpList_plain rfl (fun K hK => ?_)
  refine wp_val (.bool (decide (xm secB ptB ≠ 0))) (by kernel_rfl) ?_
  have hS' := hS
  refine hK _ _ ?_
  clear hK K
  have qgn4 : u.heap.size ≤ n4 := gn4
  have qBn4 : Blk w7 n4 (vals .u8 32 (byt (xm secB ptB))) 22 := Bn4
  clear hS gn4 Bn4
  have gn4 := qgn4
  have Bn4 := qBn4
  have hS := hS'
  clear hS' qgn4 qBn4
  refine wpList_fr (a' := { tmps := List.toArray (z0 :: (.pointer (some ⟨b1, 0, none⟩)) :: (.pointer (some ⟨b2, 0, none⟩)) :: z3 :: (.pointer (some ⟨n4, 0, none⟩)) :: (.bool (decide (xm secB ptB ≠ 0))) :: z6 :: z7 :: z8 :: z9 :: z10 :: z11 :: z12 :: (.tuple #[.agg (vals .u8 32 (byt (xm secB ptB))), .bool (decide (xm secB ptB ≠ 0))]) :: (.agg (vals .u8 32 secB)) :: (.agg (vals .u8 32 ptB)) :: (.tuple #[.agg (vals .u8 32 (byt (xm secB ptB))), .bool (decide (xm secB ptB ≠ 0))]) :: (.agg (vals .u8 32 (byt (xm secB ptB)))) :: (.bool (decide (xm secB ptB ≠ 0))) :: zz), defers := [] }) (by kernel_rfl) ?_
  refine wpList_nil ?_
  exact H n4 w7 hS gn4 Bn4
def aw5Op0 : Oper := { dst := some 20, op := Op.load 22 (Operand.tmp 1), type := 22, pos := "law.go:16", after := #[], guard := none }
def aw5Op1 : Oper := { dst := some 21, op := Op.build 22 #[], type := 22, pos := "law.go:16", after := #[], guard := none }
def aw5Op2 : Oper := { dst := some 22, op := Op.call { callee := Callee.value (Operand.func 11), args := #[Operand.tmp 20, Operand.tmp 21], argTypes := #[22, 22] }, type := 25, pos := "law.go:16", after := #[{ on := 0, ground := Ground.data }, { on := 1, ground := Ground.data }], guard := none }
def aw5Op3 : Oper := { dst := some 19, op := Op.move (Operand.tmp 22), type := 25, pos := "law.go:16", after := #[{ on := 2, ground := Ground.data }], guard := none }
def aw5Op4 : Oper := { dst := some 23, op := Op.extract (Operand.tmp 19) 0, type := 22, pos := "law.go:16", after := #[{ on := 3, ground := Ground.data }], guard := none }
def aw5Op5 : Oper := { dst := some 24, op := Op.extract (Operand.tmp 19) 1, type := 4, pos := "law.go:16", after := #[{ on := 3, ground := Ground.data }, { on := 7, ground := Ground.gcOnly Departure.lateStores }], guard := none }
def aw5Op6 : Oper := { dst := some 6, op := Op.alloc 22, type := 0, pos := "law.go:16", after := #[], guard := none }
def aw5Op7 : Oper := { dst := none, op := Op.store 22 (Operand.tmp 6) (Operand.tmp 23), type := 0, pos := "law.go:16", after := #[{ on := 6, ground := Ground.data }, { on := 4, ground := Ground.data }, { on := 2, ground := Ground.chain }, { on := 0, ground := Ground.phase }, { on := 1, ground := Ground.phase }, { on := 2, ground := Ground.phase }, { on := 3, ground := Ground.phase }, { on := 4, ground := Ground.phase }, { on := 5, ground := Ground.textOnly Departure.lateStores }, { on := 6, ground := Ground.phase }], guard := none }
def aw5Op8 : Oper := { dst := some 7, op := Op.assign (Operand.tmp 24), type := 4, pos := "law.go:16", after := #[{ on := 5, ground := Ground.data }, { on := 7, ground := Ground.chain }, { on := 0, ground := Ground.phase }, { on := 1, ground := Ground.phase }, { on := 2, ground := Ground.phase }, { on := 3, ground := Ground.phase }, { on := 4, ground := Ground.phase }, { on := 5, ground := Ground.phase }, { on := 6, ground := Ground.phase }, { on := 7, ground := Ground.phase }], guard := none }
def aw5Ops : Array Oper := #[aw5Op0, aw5Op1, aw5Op2, aw5Op3, aw5Op4, aw5Op5, aw5Op6, aw5Op7, aw5Op8]
set_option maxRecDepth 100000 in
set_option maxHeartbeats 2000000 in
theorem aw5_region (Q : Exit → Act → World → Prop) (hQ : ∀ c a w n v, Q (.panic c) (a.put (some n) v) w → Q (.panic c) a w) (u : World) (z0 z2 z3 z4 z5 z6 z7 z8 z9 z10 z11 z12 z13 z14 z15 z16 z17 z18 z19 z20 z21 z22 z23 z24 : Value) (zz : List Value) (b1 : Nat) (hb1 : Blk u b1 (vals .u8 32 secB) 22) (nb1 : b1 ∉ ([] : List Nat)) (H : ∀ (n6 : Nat) (w : World), Kp [] u w → u.heap.size ≤ n6 → Blk w n6 (vals .u8 32 (byt (xm secB (fun _ => 0)))) 22 → Q .normal { tmps := List.toArray (z0 :: (.pointer (some ⟨b1, 0, none⟩)) :: z2 :: z3 :: z4 :: z5 :: (.pointer (some ⟨n6, 0, none⟩)) :: (.bool (decide (xm secB (fun _ => 0) ≠ 0))) :: z8 :: z9 :: z10 :: z11 :: z12 :: z13 :: z14 :: z15 :: z16 :: z17 :: z18 :: (.tuple #[.agg (vals .u8 32 (byt (xm secB (fun _ => 0)))), .bool (decide (xm secB (fun _ => 0) ≠ 0))]) :: (.agg (vals .u8 32 secB)) :: (.agg (vals .u8 32 (fun _ => 0))) :: (.tuple #[.agg (vals .u8 32 (byt (xm secB (fun _ => 0)))), .bool (decide (xm secB (fun _ => 0) ≠ 0))]) :: (.agg (vals .u8 32 (byt (xm secB (fun _ => 0))))) :: (.bool (decide (xm secB (fun _ => 0) ≠ 0))) :: zz), defers := [] } w) :
    (Code.region 5 aw5Ops false).wp Try.prog Q { tmps := List.toArray (z0 :: (.pointer (some ⟨b1, 0, none⟩)) :: z2 :: z3 :: z4 :: z5 :: z6 :: z7 :: z8 :: z9 :: z10 :: z11 :: z12 :: z13 :: z14 :: z15 :: z16 :: z17 :: z18 :: z19 :: z20 :: z21 :: z22 :: z23 :: z24 :: zz), defers := [] } u := by
  have _ := hQ
  have _ := u
  have _ := z0
  have _ := z2
  have _ := z3
  have _ := z4
  have _ := z5
  have _ := z6
  have _ := z7
  have _ := z8
  have _ := z9
  have _ := z10
  have _ := z11
  have _ := z12
  have _ := z13
  have _ := z14
  have _ := z15
  have _ := z16
  have _ := z17
  have _ := z18
  have _ := z19
  have _ := z20
  have _ := z21
  have _ := z22
  have _ := z23
  have _ := z24
  have _ := zz
  have _ := b1
  have _ := hb1
  have _ := nb1
  refine wp_region_list (show wpList _ aw5Ops _ [aw5Op0, aw5Op1, aw5Op2, aw5Op3, aw5Op4, aw5Op5, aw5Op6, aw5Op7, aw5Op8] _ _ from ?_)
  have hS : Kp [] u u := Kp.refl _ u
  refine wpList_plain rfl (fun K hK => ?_)
  refine wp_load_row 22 _ rfl b1 (by kernel_rfl) 22 _ (0, 0) _ (hS.keep _ _ _ nb1 hb1) Try.underlying22 rfl (size_by _) ?_
  have hS' := hS
  refine hK _ _ ?_
  clear hK K
  clear hS
  have hS := hS'
  clear hS'
  refine wpList_fr (a' := { tmps := List.toArray (z0 :: (.pointer (some ⟨b1, 0, none⟩)) :: z2 :: z3 :: z4 :: z5 :: z6 :: z7 :: z8 :: z9 :: z10 :: z11 :: z12 :: z13 :: z14 :: z15 :: z16 :: z17 :: z18 :: z19 :: (.agg (vals .u8 32 secB)) :: z21 :: z22 :: z23 :: z24 :: zz), defers := [] }) (by kernel_rfl) ?_
  refine wpList_plain rfl (fun K hK => ?_)
  refine wp_val (.agg (vals .u8 32 (fun _ => 0))) (by kernel_rfl) ?_
  have hS' := hS
  refine hK _ _ ?_
  clear hK K
  clear hS
  have hS := hS'
  clear hS'
  refine wpList_fr (a' := { tmps := List.toArray (z0 :: (.pointer (some ⟨b1, 0, none⟩)) :: z2 :: z3 :: z4 :: z5 :: z6 :: z7 :: z8 :: z9 :: z10 :: z11 :: z12 :: z13 :: z14 :: z15 :: z16 :: z17 :: z18 :: z19 :: (.agg (vals .u8 32 secB)) :: (.agg (vals .u8 32 (fun _ => 0))) :: z22 :: z23 :: z24 :: zz), defers := [] }) (by kernel_rfl) ?_
  refine wpList_plain rfl (fun K hK => ?_)
  refine wp_call_val 11 #[.agg (vals .u8 32 secB), .agg (vals .u8 32 (fun _ => 0))] (by kernel_rfl) (.tuple #[.agg (vals .u8 32 (byt (xm secB (fun _ => 0)))), .bool (decide (xm secB (fun _ => 0) ≠ 0))]) (shared_c secB (fun _ => 0) _ secB_lt (fun _ => by omega)) ?_
  intro w2 hbw
  have hS' := hS.call hbw
  refine hK _ _ ?_
  clear hK K
  clear hS
  have hS := hS'
  clear hS'
  refine wpList_fr (a' := { tmps := List.toArray (z0 :: (.pointer (some ⟨b1, 0, none⟩)) :: z2 :: z3 :: z4 :: z5 :: z6 :: z7 :: z8 :: z9 :: z10 :: z11 :: z12 :: z13 :: z14 :: z15 :: z16 :: z17 :: z18 :: z19 :: (.agg (vals .u8 32 secB)) :: (.agg (vals .u8 32 (fun _ => 0))) :: (.tuple #[.agg (vals .u8 32 (byt (xm secB (fun _ => 0)))), .bool (decide (xm secB (fun _ => 0) ≠ 0))]) :: z23 :: z24 :: zz), defers := [] }) (by kernel_rfl) ?_
  refine wpList_plain rfl (fun K hK => ?_)
  refine wp_val (.tuple #[.agg (vals .u8 32 (byt (xm secB (fun _ => 0)))), .bool (decide (xm secB (fun _ => 0) ≠ 0))]) (by kernel_rfl) ?_
  have hS' := hS
  refine hK _ _ ?_
  clear hK K
  clear hS
  have hS := hS'
  clear hS'
  refine wpList_fr (a' := { tmps := List.toArray (z0 :: (.pointer (some ⟨b1, 0, none⟩)) :: z2 :: z3 :: z4 :: z5 :: z6 :: z7 :: z8 :: z9 :: z10 :: z11 :: z12 :: z13 :: z14 :: z15 :: z16 :: z17 :: z18 :: (.tuple #[.agg (vals .u8 32 (byt (xm secB (fun _ => 0)))), .bool (decide (xm secB (fun _ => 0) ≠ 0))]) :: (.agg (vals .u8 32 secB)) :: (.agg (vals .u8 32 (fun _ => 0))) :: (.tuple #[.agg (vals .u8 32 (byt (xm secB (fun _ => 0)))), .bool (decide (xm secB (fun _ => 0) ≠ 0))]) :: z23 :: z24 :: zz), defers := [] }) (by kernel_rfl) ?_
  refine wpList_plain rfl (fun K hK => ?_)
  refine wp_val (.agg (vals .u8 32 (byt (xm secB (fun _ => 0))))) (by kernel_rfl) ?_
  have hS' := hS
  refine hK _ _ ?_
  clear hK K
  clear hS
  have hS := hS'
  clear hS'
  refine wpList_fr (a' := { tmps := List.toArray (z0 :: (.pointer (some ⟨b1, 0, none⟩)) :: z2 :: z3 :: z4 :: z5 :: z6 :: z7 :: z8 :: z9 :: z10 :: z11 :: z12 :: z13 :: z14 :: z15 :: z16 :: z17 :: z18 :: (.tuple #[.agg (vals .u8 32 (byt (xm secB (fun _ => 0)))), .bool (decide (xm secB (fun _ => 0) ≠ 0))]) :: (.agg (vals .u8 32 secB)) :: (.agg (vals .u8 32 (fun _ => 0))) :: (.tuple #[.agg (vals .u8 32 (byt (xm secB (fun _ => 0)))), .bool (decide (xm secB (fun _ => 0) ≠ 0))]) :: (.agg (vals .u8 32 (byt (xm secB (fun _ => 0))))) :: z24 :: zz), defers := [] }) (by kernel_rfl) ?_
  refine wpList_plain rfl (fun K hK => ?_)
  refine wp_val (.bool (decide (xm secB (fun _ => 0) ≠ 0))) (by kernel_rfl) ?_
  have hS' := hS
  refine hK _ _ ?_
  clear hK K
  clear hS
  have hS := hS'
  clear hS'
  refine wpList_fr (a' := { tmps := List.toArray (z0 :: (.pointer (some ⟨b1, 0, none⟩)) :: z2 :: z3 :: z4 :: z5 :: z6 :: z7 :: z8 :: z9 :: z10 :: z11 :: z12 :: z13 :: z14 :: z15 :: z16 :: z17 :: z18 :: (.tuple #[.agg (vals .u8 32 (byt (xm secB (fun _ => 0)))), .bool (decide (xm secB (fun _ => 0) ≠ 0))]) :: (.agg (vals .u8 32 secB)) :: (.agg (vals .u8 32 (fun _ => 0))) :: (.tuple #[.agg (vals .u8 32 (byt (xm secB (fun _ => 0)))), .bool (decide (xm secB (fun _ => 0) ≠ 0))]) :: (.agg (vals .u8 32 (byt (xm secB (fun _ => 0))))) :: (.bool (decide (xm secB (fun _ => 0) ≠ 0))) :: zz), defers := [] }) (by kernel_rfl) ?_
  refine wpList_plain rfl (fun K hK => ?_)
  refine wp_new _ 22 (alloc_by _ _ _ rfl) ?_
  intro n6 w6 eb Bn6 hbw
  have hS' := hS.call hbw
  refine hK _ _ ?_
  clear hK K
  have qgn6 : u.heap.size ≤ n6 := (by rw [eb]; exact hS.size)
  have qBn6 : Blk w6 n6 (vals .u8 32 (fun _ => 0)) 22 := Bn6
  clear hS
  have gn6 := qgn6
  have Bn6 := qBn6
  have hS := hS'
  clear hS' qgn6 qBn6
  refine wpList_fr (a' := { tmps := List.toArray (z0 :: (.pointer (some ⟨b1, 0, none⟩)) :: z2 :: z3 :: z4 :: z5 :: (.pointer (some ⟨n6, 0, none⟩)) :: z7 :: z8 :: z9 :: z10 :: z11 :: z12 :: z13 :: z14 :: z15 :: z16 :: z17 :: z18 :: (.tuple #[.agg (vals .u8 32 (byt (xm secB (fun _ => 0)))), .bool (decide (xm secB (fun _ => 0) ≠ 0))]) :: (.agg (vals .u8 32 secB)) :: (.agg (vals .u8 32 (fun _ => 0))) :: (.tuple #[.agg (vals .u8 32 (byt (xm secB (fun _ => 0)))), .bool (decide (xm secB (fun _ => 0) ≠ 0))]) :: (.agg (vals .u8 32 (byt (xm secB (fun _ => 0))))) :: (.bool (decide (xm secB (fun _ => 0) ≠ 0))) :: zz), defers := [] }) (by kernel_rfl) ?_
  refine wpList_plain rfl (fun K hK => ?_)
  refine wp_store_row 22 _ _ rfl n6 (vals .u8 32 (byt (xm secB (fun _ => 0)))) (by kernel_rfl) (by kernel_rfl) 22 _ Bn6 (size_by _) (by rw [vals_size, vals_size]) (vals_one _ _ _) ?_
  have hS' := hS.new gn6 (vals .u8 32 (byt (xm secB (fun _ => 0))))
  refine hK _ _ ?_
  clear hK K
  have qgn6 : u.heap.size ≤ n6 := gn6
  have qBn6 : Blk (w6.setRow n6 (vals .u8 32 (byt (xm secB (fun _ => 0))))) n6 (vals .u8 32 (byt (xm secB (fun _ => 0)))) 22 := (Bn6.row (vals .u8 32 (byt (xm secB (fun _ => 0)))))
  clear hS gn6 Bn6
  have gn6 := qgn6
  have Bn6 := qBn6
  have hS := hS'
  clear hS' qgn6 qBn6
  refine wpList_fr (a' := { tmps := List.toArray (z0 :: (.pointer (some ⟨b1, 0, none⟩)) :: z2 :: z3 :: z4 :: z5 :: (.pointer (some ⟨n6, 0, none⟩)) :: z7 :: z8 :: z9 :: z10 :: z11 :: z12 :: z13 :: z14 :: z15 :: z16 :: z17 :: z18 :: (.tuple #[.agg (vals .u8 32 (byt (xm secB (fun _ => 0)))), .bool (decide (xm secB (fun _ => 0) ≠ 0))]) :: (.agg (vals .u8 32 secB)) :: (.agg (vals .u8 32 (fun _ => 0))) :: (.tuple #[.agg (vals .u8 32 (byt (xm secB (fun _ => 0)))), .bool (decide (xm secB (fun _ => 0) ≠ 0))]) :: (.agg (vals .u8 32 (byt (xm secB (fun _ => 0))))) :: (.bool (decide (xm secB (fun _ => 0) ≠ 0))) :: zz), defers := [] }) (by kernel_rfl) ?_
  generalize (w6.setRow n6 (vals .u8 32 (byt (xm secB (fun _ => 0))))) = w7 at *
  refine wpList_plain rfl (fun K hK => ?_)
  refine wp_val (.bool (decide (xm secB (fun _ => 0) ≠ 0))) (by kernel_rfl) ?_
  have hS' := hS
  refine hK _ _ ?_
  clear hK K
  have qgn6 : u.heap.size ≤ n6 := gn6
  have qBn6 : Blk w7 n6 (vals .u8 32 (byt (xm secB (fun _ => 0)))) 22 := Bn6
  clear hS gn6 Bn6
  have gn6 := qgn6
  have Bn6 := qBn6
  have hS := hS'
  clear hS' qgn6 qBn6
  refine wpList_fr (a' := { tmps := List.toArray (z0 :: (.pointer (some ⟨b1, 0, none⟩)) :: z2 :: z3 :: z4 :: z5 :: (.pointer (some ⟨n6, 0, none⟩)) :: (.bool (decide (xm secB (fun _ => 0) ≠ 0))) :: z8 :: z9 :: z10 :: z11 :: z12 :: z13 :: z14 :: z15 :: z16 :: z17 :: z18 :: (.tuple #[.agg (vals .u8 32 (byt (xm secB (fun _ => 0)))), .bool (decide (xm secB (fun _ => 0) ≠ 0))]) :: (.agg (vals .u8 32 secB)) :: (.agg (vals .u8 32 (fun _ => 0))) :: (.tuple #[.agg (vals .u8 32 (byt (xm secB (fun _ => 0)))), .bool (decide (xm secB (fun _ => 0) ≠ 0))]) :: (.agg (vals .u8 32 (byt (xm secB (fun _ => 0))))) :: (.bool (decide (xm secB (fun _ => 0) ≠ 0))) :: zz), defers := [] }) (by kernel_rfl) ?_
  refine wpList_nil ?_
  exact H n6 w7 hS gn6 Bn6
def aw6Op0 : Oper := { dst := some 25, op := Op.indexAddr 22 (Operand.tmp 3) (Operand.const (Value.int IntKind.i64 0)), type := 0, pos := "law.go:17", after := #[], guard := none }
def aw6Op1 : Oper := { dst := some 26, op := Op.load 5 (Operand.tmp 25), type := 5, pos := "law.go:17", after := #[{ on := 0, ground := Ground.data }], guard := none }
def aw6Op2 : Oper := { dst := some 27, op := Op.binOp BinOp.eql 5 (Operand.tmp 26) (Operand.const (Value.int IntKind.u8 195)) 5, type := 4, pos := "law.go:17", after := #[{ on := 1, ground := Ground.data }], guard := none }
def aw6Op3 : Oper := { dst := some 28, op := Op.move (Operand.tmp 27), type := 4, pos := "law.go:17", after := #[{ on := 2, ground := Ground.data }], guard := none }
def aw6Op4 : Oper := { dst := some 29, op := Op.indexAddr 22 (Operand.tmp 3) (Operand.const (Value.int IntKind.i64 1)), type := 0, pos := "law.go:17", after := #[{ on := 3, ground := Ground.guard }], guard := some (3, true) }
def aw6Op5 : Oper := { dst := some 30, op := Op.load 5 (Operand.tmp 29), type := 5, pos := "law.go:17", after := #[{ on := 4, ground := Ground.data }, { on := 3, ground := Ground.guard }], guard := some (3, true) }
def aw6Op6 : Oper := { dst := some 31, op := Op.binOp BinOp.eql 5 (Operand.tmp 30) (Operand.const (Value.int IntKind.u8 218)) 5, type := 4, pos := "law.go:17", after := #[{ on := 5, ground := Ground.data }, { on := 3, ground := Ground.guard }], guard := some (3, true) }
def aw6Op7 : Oper := { dst := some 32, op := Op.pick (Operand.tmp 28) (Operand.tmp 31) (Operand.const (Value.bool false)), type := 4, pos := "law.go:17", after := #[{ on := 3, ground := Ground.data }, { on := 6, ground := Ground.data }], guard := none }
def aw6Op8 : Oper := { dst := some 33, op := Op.move (Operand.tmp 32), type := 4, pos := "law.go:17", after := #[{ on := 7, ground := Ground.data }, { on := 3, ground := Ground.chain }], guard := none }
def aw6Op9 : Oper := { dst := some 34, op := Op.indexAddr 22 (Operand.tmp 3) (Operand.const (Value.int IntKind.i64 2)), type := 0, pos := "law.go:17", after := #[{ on := 8, ground := Ground.guard }], guard := some (8, true) }
def aw6Op10 : Oper := { dst := some 35, op := Op.load 5 (Operand.tmp 34), type := 5, pos := "law.go:17", after := #[{ on := 9, ground := Ground.data }, { on := 8, ground := Ground.guard }], guard := some (8, true) }
def aw6Op11 : Oper := { dst := some 36, op := Op.binOp BinOp.eql 5 (Operand.tmp 35) (Operand.const (Value.int IntKind.u8 85)) 5, type := 4, pos := "law.go:17", after := #[{ on := 10, ground := Ground.data }, { on := 8, ground := Ground.guard }], guard := some (8, true) }
def aw6Op12 : Oper := { dst := some 37, op := Op.pick (Operand.tmp 33) (Operand.tmp 36) (Operand.const (Value.bool false)), type := 4, pos := "law.go:17", after := #[{ on := 8, ground := Ground.data }, { on := 11, ground := Ground.data }], guard := none }
def aw6Op13 : Oper := { dst := some 38, op := Op.move (Operand.tmp 37), type := 4, pos := "law.go:17", after := #[{ on := 12, ground := Ground.data }, { on := 8, ground := Ground.chain }], guard := none }
def aw6Op14 : Oper := { dst := some 39, op := Op.indexAddr 22 (Operand.tmp 3) (Operand.const (Value.int IntKind.i64 3)), type := 0, pos := "law.go:17", after := #[{ on := 13, ground := Ground.guard }], guard := some (13, true) }
def aw6Op15 : Oper := { dst := some 40, op := Op.load 5 (Operand.tmp 39), type := 5, pos := "law.go:17", after := #[{ on := 14, ground := Ground.data }, { on := 13, ground := Ground.guard }], guard := some (13, true) }
def aw6Op16 : Oper := { dst := some 41, op := Op.binOp BinOp.eql 5 (Operand.tmp 40) (Operand.const (Value.int IntKind.u8 55)) 5, type := 4, pos := "law.go:17", after := #[{ on := 15, ground := Ground.data }, { on := 13, ground := Ground.guard }], guard := some (13, true) }
def aw6Op17 : Oper := { dst := some 42, op := Op.pick (Operand.tmp 38) (Operand.tmp 41) (Operand.const (Value.bool false)), type := 4, pos := "law.go:17", after := #[{ on := 13, ground := Ground.data }, { on := 16, ground := Ground.data }], guard := none }
def aw6Op18 : Oper := { dst := some 43, op := Op.move (Operand.tmp 42), type := 4, pos := "law.go:17", after := #[{ on := 17, ground := Ground.data }, { on := 13, ground := Ground.chain }], guard := none }
def aw6Op19 : Oper := { dst := some 44, op := Op.indexAddr 22 (Operand.tmp 3) (Operand.const (Value.int IntKind.i64 31)), type := 0, pos := "law.go:17", after := #[{ on := 18, ground := Ground.guard }], guard := some (18, true) }
def aw6Op20 : Oper := { dst := some 45, op := Op.load 5 (Operand.tmp 44), type := 5, pos := "law.go:17", after := #[{ on := 19, ground := Ground.data }, { on := 18, ground := Ground.guard }], guard := some (18, true) }
def aw6Op21 : Oper := { dst := some 46, op := Op.binOp BinOp.eql 5 (Operand.tmp 45) (Operand.const (Value.int IntKind.u8 82)) 5, type := 4, pos := "law.go:17", after := #[{ on := 20, ground := Ground.data }, { on := 18, ground := Ground.guard }], guard := some (18, true) }
def aw6Op22 : Oper := { dst := some 47, op := Op.pick (Operand.tmp 43) (Operand.tmp 46) (Operand.const (Value.bool false)), type := 4, pos := "law.go:17", after := #[{ on := 18, ground := Ground.data }, { on := 21, ground := Ground.data }], guard := none }
def aw6Op23 : Oper := { dst := some 48, op := Op.move (Operand.tmp 47), type := 4, pos := "law.go:17", after := #[{ on := 22, ground := Ground.data }, { on := 18, ground := Ground.chain }], guard := none }
def aw6Op24 : Oper := { dst := some 49, op := Op.load 22 (Operand.tmp 4), type := 22, pos := "law.go:17", after := #[{ on := 23, ground := Ground.guard }], guard := some (23, true) }
def aw6Op25 : Oper := { dst := some 50, op := Op.load 22 (Operand.tmp 3), type := 22, pos := "law.go:17", after := #[{ on := 23, ground := Ground.guard }], guard := some (23, true) }
def aw6Op26 : Oper := { dst := some 51, op := Op.binOp BinOp.eql 22 (Operand.tmp 49) (Operand.tmp 50) 22, type := 4, pos := "law.go:17", after := #[{ on := 24, ground := Ground.data }, { on := 25, ground := Ground.data }, { on := 23, ground := Ground.guard }], guard := some (23, true) }
def aw6Op27 : Oper := { dst := some 52, op := Op.pick (Operand.tmp 48) (Operand.tmp 51) (Operand.const (Value.bool false)), type := 4, pos := "law.go:17", after := #[{ on := 23, ground := Ground.data }, { on := 26, ground := Ground.data }], guard := none }
def aw6Op28 : Oper := { dst := some 53, op := Op.move (Operand.tmp 52), type := 4, pos := "law.go:17", after := #[{ on := 27, ground := Ground.data }, { on := 23, ground := Ground.chain }], guard := none }
def aw6Op29 : Oper := { dst := some 54, op := Op.move (Operand.tmp 5), type := 4, pos := "law.go:17", after := #[{ on := 28, ground := Ground.guard }], guard := some (28, true) }
def aw6Op30 : Oper := { dst := some 55, op := Op.pick (Operand.tmp 53) (Operand.tmp 54) (Operand.const (Value.bool false)), type := 4, pos := "law.go:17", after := #[{ on := 28, ground := Ground.data }, { on := 29, ground := Ground.data }], guard := none }
def aw6Op31 : Oper := { dst := some 56, op := Op.move (Operand.tmp 55), type := 4, pos := "law.go:17", after := #[{ on := 30, ground := Ground.data }, { on := 28, ground := Ground.chain }], guard := none }
def aw6Op32 : Oper := { dst := some 57, op := Op.load 22 (Operand.tmp 6), type := 22, pos := "law.go:17", after := #[{ on := 31, ground := Ground.guard }], guard := some (31, true) }
def aw6Op33 : Oper := { dst := some 58, op := Op.build 22 #[], type := 22, pos := "law.go:17", after := #[{ on := 31, ground := Ground.guard }], guard := some (31, true) }
def aw6Op34 : Oper := { dst := some 59, op := Op.binOp BinOp.eql 22 (Operand.tmp 57) (Operand.tmp 58) 22, type := 4, pos := "law.go:17", after := #[{ on := 32, ground := Ground.data }, { on := 33, ground := Ground.data }, { on := 31, ground := Ground.guard }], guard := some (31, true) }
def aw6Op35 : Oper := { dst := some 60, op := Op.pick (Operand.tmp 56) (Operand.tmp 59) (Operand.const (Value.bool false)), type := 4, pos := "law.go:17", after := #[{ on := 31, ground := Ground.data }, { on := 34, ground := Ground.data }], guard := none }
def aw6Op36 : Oper := { dst := some 61, op := Op.move (Operand.tmp 60), type := 4, pos := "law.go:17", after := #[{ on := 35, ground := Ground.data }, { on := 31, ground := Ground.chain }], guard := none }
def aw6Op37 : Oper := { dst := some 62, op := Op.move (Operand.tmp 7), type := 4, pos := "law.go:17", after := #[{ on := 36, ground := Ground.guard }], guard := some (36, true) }
def aw6Op38 : Oper := { dst := some 63, op := Op.unOp UnOp.not 4 (Operand.tmp 62), type := 4, pos := "law.go:17", after := #[{ on := 37, ground := Ground.data }, { on := 36, ground := Ground.guard }], guard := some (36, true) }
def aw6Op39 : Oper := { dst := some 64, op := Op.pick (Operand.tmp 61) (Operand.tmp 63) (Operand.const (Value.bool false)), type := 4, pos := "law.go:17", after := #[{ on := 36, ground := Ground.data }, { on := 38, ground := Ground.data }], guard := none }
def aw6Op40 : Oper := { dst := some 65, op := Op.move (Operand.tmp 64), type := 4, pos := "law.go:17", after := #[{ on := 39, ground := Ground.data }, { on := 36, ground := Ground.chain }], guard := none }
def aw6Op41 : Oper := { dst := some 66, op := Op.load 22 (Operand.tmp 1), type := 22, pos := "law.go:17", after := #[{ on := 40, ground := Ground.guard }], guard := some (40, true) }
def aw6Op42 : Oper := { dst := some 67, op := Op.call { callee := Callee.value (Operand.func 12), args := #[Operand.tmp 66], argTypes := #[22] }, type := 22, pos := "law.go:17", after := #[{ on := 41, ground := Ground.data }, { on := 40, ground := Ground.chain }, { on := 40, ground := Ground.guard }], guard := some (40, true) }
def aw6Op43 : Oper := { dst := some 68, op := Op.load 22 (Operand.tmp 1), type := 22, pos := "law.go:17", after := #[{ on := 40, ground := Ground.guard }], guard := some (40, true) }
def aw6Op44 : Oper := { dst := some 69, op := Op.build 22 #[(0, Operand.const (Value.int IntKind.u8 9))], type := 22, pos := "law.go:17", after := #[{ on := 40, ground := Ground.guard }], guard := some (40, true) }
def aw6Op45 : Oper := { dst := some 70, op := Op.call { callee := Callee.value (Operand.func 9), args := #[Operand.tmp 68, Operand.tmp 69], argTypes := #[22, 22] }, type := 22, pos := "law.go:17", after := #[{ on := 43, ground := Ground.data }, { on := 44, ground := Ground.data }, { on := 42, ground := Ground.chain }, { on := 40, ground := Ground.guard }], guard := some (40, true) }
def aw6Op46 : Oper := { dst := some 71, op := Op.binOp BinOp.eql 22 (Operand.tmp 67) (Operand.tmp 70) 22, type := 4, pos := "law.go:17", after := #[{ on := 42, ground := Ground.data }, { on := 45, ground := Ground.data }, { on := 40, ground := Ground.guard }], guard := some (40, true) }
def aw6Op47 : Oper := { dst := some 72, op := Op.pick (Operand.tmp 65) (Operand.tmp 71) (Operand.const (Value.bool false)), type := 4, pos := "law.go:17", after := #[{ on := 40, ground := Ground.data }, { on := 46, ground := Ground.data }], guard := none }
def aw6Op48 : Oper := { dst := some 0, op := Op.assign (Operand.tmp 72), type := 4, pos := "law.go:17", after := #[{ on := 47, ground := Ground.data }, { on := 45, ground := Ground.chain }, { on := 0, ground := Ground.phase }, { on := 1, ground := Ground.phase }, { on := 2, ground := Ground.phase }, { on := 3, ground := Ground.phase }, { on := 4, ground := Ground.phase }, { on := 5, ground := Ground.phase }, { on := 6, ground := Ground.phase }, { on := 7, ground := Ground.phase }, { on := 8, ground := Ground.phase }, { on := 9, ground := Ground.phase }, { on := 10, ground := Ground.phase }, { on := 11, ground := Ground.phase }, { on := 12, ground := Ground.phase }, { on := 13, ground := Ground.phase }, { on := 14, ground := Ground.phase }, { on := 15, ground := Ground.phase }, { on := 16, ground := Ground.phase }, { on := 17, ground := Ground.phase }, { on := 18, ground := Ground.phase }, { on := 19, ground := Ground.phase }, { on := 20, ground := Ground.phase }, { on := 21, ground := Ground.phase }, { on := 22, ground := Ground.phase }, { on := 23, ground := Ground.phase }, { on := 24, ground := Ground.phase }, { on := 25, ground := Ground.phase }, { on := 26, ground := Ground.phase }, { on := 27, ground := Ground.phase }, { on := 28, ground := Ground.phase }, { on := 29, ground := Ground.phase }, { on := 30, ground := Ground.phase }, { on := 31, ground := Ground.phase }, { on := 32, ground := Ground.phase }, { on := 33, ground := Ground.phase }, { on := 34, ground := Ground.phase }, { on := 35, ground := Ground.phase }, { on := 36, ground := Ground.phase }, { on := 37, ground := Ground.phase }, { on := 38, ground := Ground.phase }, { on := 39, ground := Ground.phase }, { on := 40, ground := Ground.phase }, { on := 41, ground := Ground.phase }, { on := 42, ground := Ground.phase }, { on := 43, ground := Ground.phase }, { on := 44, ground := Ground.phase }, { on := 45, ground := Ground.phase }, { on := 46, ground := Ground.phase }, { on := 47, ground := Ground.phase }], guard := none }
def aw6Ops : Array Oper := #[aw6Op0, aw6Op1, aw6Op2, aw6Op3, aw6Op4, aw6Op5, aw6Op6, aw6Op7, aw6Op8, aw6Op9, aw6Op10, aw6Op11, aw6Op12, aw6Op13, aw6Op14, aw6Op15, aw6Op16, aw6Op17, aw6Op18, aw6Op19, aw6Op20, aw6Op21, aw6Op22, aw6Op23, aw6Op24, aw6Op25, aw6Op26, aw6Op27, aw6Op28, aw6Op29, aw6Op30, aw6Op31, aw6Op32, aw6Op33, aw6Op34, aw6Op35, aw6Op36, aw6Op37, aw6Op38, aw6Op39, aw6Op40, aw6Op41, aw6Op42, aw6Op43, aw6Op44, aw6Op45, aw6Op46, aw6Op47, aw6Op48]
structure aw6C (Q : Exit → Act → World → Prop) (u : World) (z0 z2 z8 z9 z10 z11 z12 z13 z14 z15 z16 z17 z18 z19 z20 z21 z22 z23 z24 z25 z26 z27 z28 z29 z30 z31 z32 z33 z34 z35 z36 z37 z38 z39 z40 z41 z42 z43 z44 z45 z46 z47 z48 z49 z50 z51 z52 z53 z54 z55 z56 z57 z58 z59 z60 z61 z62 z63 z64 z65 z66 z67 z68 z69 z70 z71 z72 : Value) (b1 b3 b4 b6 : Nat) (m z : Nat → Nat) : Prop where
  hQ : ∀ c a w n v, Q (.panic c) (a.put (some n) v) w → Q (.panic c) a w
  m0 : m 0 = 195
  m1 : m 1 = 218
  m2 : m 2 = 85
  m3 : m 3 = 55
  m31 : m 31 = 82
  hz : sameB z (fun _ => 0) = true
  hb1 : Blk u b1 (vals .u8 32 secB) 22
  nb1 : b1 ∉ ([] : List Nat)
  hb3 : Blk u b3 (vals .u8 32 m) 22
  nb3 : b3 ∉ ([] : List Nat)
  hb4 : Blk u b4 (vals .u8 32 m) 22
  nb4 : b4 ∉ ([] : List Nat)
  hb6 : Blk u b6 (vals .u8 32 z) 22
  nb6 : b6 ∉ ([] : List Nat)
  H : ∀ (w : World), Kp [] u w → Q .normal { tmps := List.toArray ((.bool true) :: (.pointer (some ⟨b1, 0, none⟩)) :: z2 :: (.pointer (some ⟨b3, 0, none⟩)) :: (.pointer (some ⟨b4, 0, none⟩)) :: (.bool true) :: (.pointer (some ⟨b6, 0, none⟩)) :: (.bool false) :: z8 :: z9 :: z10 :: z11 :: z12 :: z13 :: z14 :: z15 :: z16 :: z17 :: z18 :: z19 :: z20 :: z21 :: z22 :: z23 :: z24 :: (.pointer (some ⟨b3, 0, none⟩)) :: (.int .u8 ((195 : Nat) : Int)) :: (.bool true) :: (.bool true) :: (.pointer (some ⟨b3, 1, none⟩)) :: (.int .u8 ((218 : Nat) : Int)) :: (.bool true) :: (.bool true) :: (.bool true) :: (.pointer (some ⟨b3, 2, none⟩)) :: (.int .u8 ((85 : Nat) : Int)) :: (.bool true) :: (.bool true) :: (.bool true) :: (.pointer (some ⟨b3, 3, none⟩)) :: (.int .u8 ((55 : Nat) : Int)) :: (.bool true) :: (.bool true) :: (.bool true) :: (.pointer (some ⟨b3, 31, none⟩)) :: (.int .u8 ((82 : Nat) : Int)) :: (.bool true) :: (.bool true) :: (.bool true) :: (.agg (vals .u8 32 m)) :: (.agg (vals .u8 32 m)) :: (.bool true) :: (.bool true) :: (.bool true) :: (.bool true) :: (.bool true) :: (.bool true) :: (.agg (vals .u8 32 z)) :: (.agg (vals .u8 32 (fun _ => 0))) :: (.bool true) :: (.bool true) :: (.bool true) :: (.bool false) :: (.bool true) :: (.bool true) :: (.bool true) :: (.agg (vals .u8 32 secB)) :: (.agg (vals .u8 32 (byt (xm secB nineB)))) :: (.agg (vals .u8 32 secB)) :: (.agg (vals .u8 32 nineB)) :: (.agg (vals .u8 32 (byt (xm secB nineB)))) :: (.bool true) :: (.bool true) :: []), defers := [] } w
section
variable {Q : Exit → Act → World → Prop} {u : World} {z0 z2 z8 z9 z10 z11 z12 z13 z14 z15 z16 z17 z18 z19 z20 z21 z22 z23 z24 z25 z26 z27 z28 z29 z30 z31 z32 z33 z34 z35 z36 z37 z38 z39 z40 z41 z42 z43 z44 z45 z46 z47 z48 z49 z50 z51 z52 z53 z54 z55 z56 z57 z58 z59 z60 z61 z62 z63 z64 z65 z66 z67 z68 z69 z70 z71 z72 : Value} {b1 b3 b4 b6 : Nat} {m z : Nat → Nat}
set_option maxRecDepth 100000 in
set_option maxHeartbeats 2000000 in
theorem aw6_0 (C : aw6C Q u z0 z2 z8 z9 z10 z11 z12 z13 z14 z15 z16 z17 z18 z19 z20 z21 z22 z23 z24 z25 z26 z27 z28 z29 z30 z31 z32 z33 z34 z35 z36 z37 z38 z39 z40 z41 z42 z43 z44 z45 z46 z47 z48 z49 z50 z51 z52 z53 z54 z55 z56 z57 z58 z59 z60 z61 z62 z63 z64 z65 z66 z67 z68 z69 z70 z71 z72 b1 b3 b4 b6 m z) (w : World) (hS : Kp [] u w) :
    wpAnyH Try.prog .any aw6Ops Q (Kp [] u) 0 (List.toArray (true :: true :: true :: true :: true :: true :: true :: true :: true :: true :: true :: true :: true :: true :: true :: true :: true :: true :: true :: true :: true :: true :: true :: true :: true :: true :: true :: true :: true :: true :: true :: true :: true :: true :: true :: true :: true :: true :: true :: true :: true :: true :: true :: true :: true :: true :: true :: true :: true :: [])) { tmps := List.toArray ((.bool true) :: (.pointer (some ⟨b1, 0, none⟩)) :: z2 :: (.pointer (some ⟨b3, 0, none⟩)) :: (.pointer (some ⟨b4, 0, none⟩)) :: (.bool true) :: (.pointer (some ⟨b6, 0, none⟩)) :: (.bool false) :: z8 :: z9 :: z10 :: z11 :: z12 :: z13 :: z14 :: z15 :: z16 :: z17 :: z18 :: z19 :: z20 :: z21 :: z22 :: z23 :: z24 :: (.pointer (some ⟨b3, 0, none⟩)) :: (.int .u8 ((195 : Nat) : Int)) :: (.bool true) :: (.bool true) :: (.pointer (some ⟨b3, 1, none⟩)) :: (.int .u8 ((218 : Nat) : Int)) :: (.bool true) :: (.bool true) :: (.bool true) :: (.pointer (some ⟨b3, 2, none⟩)) :: (.int .u8 ((85 : Nat) : Int)) :: (.bool true) :: (.bool true) :: (.bool true) :: (.pointer (some ⟨b3, 3, none⟩)) :: (.int .u8 ((55 : Nat) : Int)) :: (.bool true) :: (.bool true) :: (.bool true) :: (.pointer (some ⟨b3, 31, none⟩)) :: (.int .u8 ((82 : Nat) : Int)) :: (.bool true) :: (.bool true) :: (.bool true) :: (.agg (vals .u8 32 m)) :: (.agg (vals .u8 32 m)) :: (.bool true) :: (.bool true) :: (.bool true) :: (.bool true) :: (.bool true) :: (.bool true) :: (.agg (vals .u8 32 z)) :: (.agg (vals .u8 32 (fun _ => 0))) :: (.bool true) :: (.bool true) :: (.bool true) :: (.bool false) :: (.bool true) :: (.bool true) :: (.bool true) :: (.agg (vals .u8 32 secB)) :: (.agg (vals .u8 32 (byt (xm secB nineB)))) :: (.agg (vals .u8 32 secB)) :: (.agg (vals .u8 32 nineB)) :: (.agg (vals .u8 32 (byt (xm secB nineB)))) :: (.bool true) :: (.bool true) :: []), defers := [] } w := by
  exact wpAnyH_done (by kernel_rfl) (C.H  w hS ) _
set_option maxRecDepth 100000 in
set_option maxHeartbeats 2000000 in
theorem aw6_1 (C : aw6C Q u z0 z2 z8 z9 z10 z11 z12 z13 z14 z15 z16 z17 z18 z19 z20 z21 z22 z23 z24 z25 z26 z27 z28 z29 z30 z31 z32 z33 z34 z35 z36 z37 z38 z39 z40 z41 z42 z43 z44 z45 z46 z47 z48 z49 z50 z51 z52 z53 z54 z55 z56 z57 z58 z59 z60 z61 z62 z63 z64 z65 z66 z67 z68 z69 z70 z71 z72 b1 b3 b4 b6 m z) (w : World) (hS : Kp [] u w) :
    wpAnyH Try.prog .any aw6Ops Q (Kp [] u) 4 (List.toArray (true :: true :: true :: true :: true :: true :: true :: true :: true :: true :: true :: true :: true :: true :: true :: true :: true :: true :: true :: true :: true :: true :: true :: true :: true :: true :: true :: true :: true :: true :: true :: true :: true :: true :: true :: true :: true :: true :: true :: true :: true :: true :: true :: true :: true :: false :: false :: false :: false :: [])) { tmps := List.toArray (z0 :: (.pointer (some ⟨b1, 0, none⟩)) :: z2 :: (.pointer (some ⟨b3, 0, none⟩)) :: (.pointer (some ⟨b4, 0, none⟩)) :: (.bool true) :: (.pointer (some ⟨b6, 0, none⟩)) :: (.bool false) :: z8 :: z9 :: z10 :: z11 :: z12 :: z13 :: z14 :: z15 :: z16 :: z17 :: z18 :: z19 :: z20 :: z21 :: z22 :: z23 :: z24 :: (.pointer (some ⟨b3, 0, none⟩)) :: (.int .u8 ((195 : Nat) : Int)) :: (.bool true) :: (.bool true) :: (.pointer (some ⟨b3, 1, none⟩)) :: (.int .u8 ((218 : Nat) : Int)) :: (.bool true) :: (.bool true) :: (.bool true) :: (.pointer (some ⟨b3, 2, none⟩)) :: (.int .u8 ((85 : Nat) : Int)) :: (.bool true) :: (.bool true) :: (.bool true) :: (.pointer (some ⟨b3, 3, none⟩)) :: (.int .u8 ((55 : Nat) : Int)) :: (.bool true) :: (.bool true) :: (.bool true) :: (.pointer (some ⟨b3, 31, none⟩)) :: (.int .u8 ((82 : Nat) : Int)) :: (.bool true) :: (.bool true) :: (.bool true) :: (.agg (vals .u8 32 m)) :: (.agg (vals .u8 32 m)) :: (.bool true) :: (.bool true) :: (.bool true) :: (.bool true) :: (.bool true) :: (.bool true) :: (.agg (vals .u8 32 z)) :: (.agg (vals .u8 32 (fun _ => 0))) :: (.bool true) :: (.bool true) :: (.bool true) :: (.bool false) :: (.bool true) :: (.bool true) :: (.bool true) :: (.agg (vals .u8 32 secB)) :: (.agg (vals .u8 32 (byt (xm secB nineB)))) :: (.agg (vals .u8 32 secB)) :: (.agg (vals .u8 32 nineB)) :: z70 :: z71 :: z72 :: []), defers := [] } w := by
  obtain ⟨hQ, m0, m1, m2, m3, m31, hz, hb1, nb1, hb3, nb3, hb4, nb4, hb6, nb6, _⟩ := id C
  refine wpAnyH_ready (rs := [45]) (by kernel_rfl) (by simp) ?_
  refine AllReadyH.cons (o := aw6Op45) rfl (fun K hK => ?_) AllReadyH.nil
  rw [if_pos (by rfl)]
  refine wp_call_val 9 #[.agg (vals .u8 32 secB), .agg (vals .u8 32 nineB)] (by kernel_rfl) (.agg (vals .u8 32 (byt (xm secB nineB)))) (mul_c9 secB nineB _ secB_lt nineB_lt) ?_
  intro w' hbw
  have hS' := hS.call hbw
  refine hK.out _ _ hS' (fun _ => ?_)
  refine wpAnyH_take (i := 46) (oi := aw6Op46) (v := .bool true) rfl (by kernel_rfl) (by kernel_rfl) (by kernel_rfl) (fun _ _ _ => hQ _ _ _ _ _) (yeq (by kernel_rfl) _ _ (byt (xm secB nineB)) (byt (xm secB nineB)) rfl (by kernel_rfl) (by kernel_rfl) (same_self _)) hS' ?_
  refine wpAnyH_take (i := 47) (oi := aw6Op47) (v := .bool true) rfl (by kernel_rfl) (by kernel_rfl) (by kernel_rfl) (fun _ _ _ => hQ _ _ _ _ _) (Or.inl ⟨by kernel_rfl, fun _ _ => by kernel_rfl⟩) hS' ?_
  refine wpAnyH_take (i := 48) (oi := aw6Op48) (v := .bool true) rfl (by kernel_rfl) (by kernel_rfl) (by kernel_rfl) (fun _ _ _ => hQ _ _ _ _ _) (Or.inl ⟨by kernel_rfl, fun _ _ => by kernel_rfl⟩) hS' ?_
  exact wpAnyH_at (by kernel_rfl) (by kernel_rfl) (aw6_0 C w' hS' )
set_option maxRecDepth 100000 in
set_option maxHeartbeats 2000000 in
theorem aw6_2 (C : aw6C Q u z0 z2 z8 z9 z10 z11 z12 z13 z14 z15 z16 z17 z18 z19 z20 z21 z22 z23 z24 z25 z26 z27 z28 z29 z30 z31 z32 z33 z34 z35 z36 z37 z38 z39 z40 z41 z42 z43 z44 z45 z46 z47 z48 z49 z50 z51 z52 z53 z54 z55 z56 z57 z58 z59 z60 z61 z62 z63 z64 z65 z66 z67 z68 z69 z70 z71 z72 b1 b3 b4 b6 m z) (w : World) (hS : Kp [] u w) :
    wpAnyH Try.prog .any aw6Ops Q (Kp [] u) 5 (List.toArray (true :: true :: true :: true :: true :: true :: true :: true :: true :: true :: true :: true :: true :: true :: true :: true :: true :: true :: true :: true :: true :: true :: true :: true :: true :: true :: true :: true :: true :: true :: true :: true :: true :: true :: true :: true :: true :: true :: true :: true :: true :: true :: false :: true :: true :: false :: false :: false :: false :: [])) { tmps := List.toArray (z0 :: (.pointer (some ⟨b1, 0, none⟩)) :: z2 :: (.pointer (some ⟨b3, 0, none⟩)) :: (.pointer (some ⟨b4, 0, none⟩)) :: (.bool true) :: (.pointer (some ⟨b6, 0, none⟩)) :: (.bool false) :: z8 :: z9 :: z10 :: z11 :: z12 :: z13 :: z14 :: z15 :: z16 :: z17 :: z18 :: z19 :: z20 :: z21 :: z22 :: z23 :: z24 :: (.pointer (some ⟨b3, 0, none⟩)) :: (.int .u8 ((195 : Nat) : Int)) :: (.bool true) :: (.bool true) :: (.pointer (some ⟨b3, 1, none⟩)) :: (.int .u8 ((218 : Nat) : Int)) :: (.bool true) :: (.bool true) :: (.bool true) :: (.pointer (some ⟨b3, 2, none⟩)) :: (.int .u8 ((85 : Nat) : Int)) :: (.bool true) :: (.bool true) :: (.bool true) :: (.pointer (some ⟨b3, 3, none⟩)) :: (.int .u8 ((55 : Nat) : Int)) :: (.bool true) :: (.bool true) :: (.bool true) :: (.pointer (some ⟨b3, 31, none⟩)) :: (.int .u8 ((82 : Nat) : Int)) :: (.bool true) :: (.bool true) :: (.bool true) :: (.agg (vals .u8 32 m)) :: (.agg (vals .u8 32 m)) :: (.bool true) :: (.bool true) :: (.bool true) :: (.bool true) :: (.bool true) :: (.bool true) :: (.agg (vals .u8 32 z)) :: (.agg (vals .u8 32 (fun _ => 0))) :: (.bool true) :: (.bool true) :: (.bool true) :: (.bool false) :: (.bool true) :: (.bool true) :: (.bool true) :: (.agg (vals .u8 32 secB)) :: z67 :: (.agg (vals .u8 32 secB)) :: (.agg (vals .u8 32 nineB)) :: z70 :: z71 :: z72 :: []), defers := [] } w := by
  obtain ⟨hQ, m0, m1, m2, m3, m31, hz, hb1, nb1, hb3, nb3, hb4, nb4, hb6, nb6, _⟩ := id C
  refine wpAnyH_ready (rs := [42]) (by kernel_rfl) (by simp) ?_
  refine AllReadyH.cons (o := aw6Op42) rfl (fun K hK => ?_) AllReadyH.nil
  rw [if_pos (by rfl)]
  refine wp_call_val 12 #[.agg (vals .u8 32 secB)] (by kernel_rfl) (.agg (vals .u8 32 (byt (xm secB nineB)))) (public_c secB _ secB_lt) ?_
  intro w' hbw
  have hS' := hS.call hbw
  refine hK.out _ _ hS' (fun _ => ?_)
  exact wpAnyH_at (by kernel_rfl) (by kernel_rfl) (aw6_1 C w' hS' )
end
set_option maxRecDepth 100000 in
set_option maxHeartbeats 2000000 in
theorem aw6_region (Q : Exit → Act → World → Prop) (hQ : ∀ c a w n v, Q (.panic c) (a.put (some n) v) w → Q (.panic c) a w) (u : World) (z0 z2 z8 z9 z10 z11 z12 z13 z14 z15 z16 z17 z18 z19 z20 z21 z22 z23 z24 z25 z26 z27 z28 z29 z30 z31 z32 z33 z34 z35 z36 z37 z38 z39 z40 z41 z42 z43 z44 z45 z46 z47 z48 z49 z50 z51 z52 z53 z54 z55 z56 z57 z58 z59 z60 z61 z62 z63 z64 z65 z66 z67 z68 z69 z70 z71 z72 : Value) (b1 b3 b4 b6 : Nat) (m z : Nat → Nat) (m0 : m 0 = 195) (m1 : m 1 = 218) (m2 : m 2 = 85) (m3 : m 3 = 55) (m31 : m 31 = 82) (hz : sameB z (fun _ => 0) = true) (hb1 : Blk u b1 (vals .u8 32 secB) 22) (nb1 : b1 ∉ ([] : List Nat)) (hb3 : Blk u b3 (vals .u8 32 m) 22) (nb3 : b3 ∉ ([] : List Nat)) (hb4 : Blk u b4 (vals .u8 32 m) 22) (nb4 : b4 ∉ ([] : List Nat)) (hb6 : Blk u b6 (vals .u8 32 z) 22) (nb6 : b6 ∉ ([] : List Nat)) (H : ∀ (w : World), Kp [] u w → Q .normal { tmps := List.toArray ((.bool true) :: (.pointer (some ⟨b1, 0, none⟩)) :: z2 :: (.pointer (some ⟨b3, 0, none⟩)) :: (.pointer (some ⟨b4, 0, none⟩)) :: (.bool true) :: (.pointer (some ⟨b6, 0, none⟩)) :: (.bool false) :: z8 :: z9 :: z10 :: z11 :: z12 :: z13 :: z14 :: z15 :: z16 :: z17 :: z18 :: z19 :: z20 :: z21 :: z22 :: z23 :: z24 :: (.pointer (some ⟨b3, 0, none⟩)) :: (.int .u8 ((195 : Nat) : Int)) :: (.bool true) :: (.bool true) :: (.pointer (some ⟨b3, 1, none⟩)) :: (.int .u8 ((218 : Nat) : Int)) :: (.bool true) :: (.bool true) :: (.bool true) :: (.pointer (some ⟨b3, 2, none⟩)) :: (.int .u8 ((85 : Nat) : Int)) :: (.bool true) :: (.bool true) :: (.bool true) :: (.pointer (some ⟨b3, 3, none⟩)) :: (.int .u8 ((55 : Nat) : Int)) :: (.bool true) :: (.bool true) :: (.bool true) :: (.pointer (some ⟨b3, 31, none⟩)) :: (.int .u8 ((82 : Nat) : Int)) :: (.bool true) :: (.bool true) :: (.bool true) :: (.agg (vals .u8 32 m)) :: (.agg (vals .u8 32 m)) :: (.bool true) :: (.bool true) :: (.bool true) :: (.bool true) :: (.bool true) :: (.bool true) :: (.agg (vals .u8 32 z)) :: (.agg (vals .u8 32 (fun _ => 0))) :: (.bool true) :: (.bool true) :: (.bool true) :: (.bool false) :: (.bool true) :: (.bool true) :: (.bool true) :: (.agg (vals .u8 32 secB)) :: (.agg (vals .u8 32 (byt (xm secB nineB)))) :: (.agg (vals .u8 32 secB)) :: (.agg (vals .u8 32 nineB)) :: (.agg (vals .u8 32 (byt (xm secB nineB)))) :: (.bool true) :: (.bool true) :: []), defers := [] } w) :
    (Code.region 6 aw6Ops true).wp Try.prog Q { tmps := List.toArray (z0 :: (.pointer (some ⟨b1, 0, none⟩)) :: z2 :: (.pointer (some ⟨b3, 0, none⟩)) :: (.pointer (some ⟨b4, 0, none⟩)) :: (.bool true) :: (.pointer (some ⟨b6, 0, none⟩)) :: (.bool false) :: z8 :: z9 :: z10 :: z11 :: z12 :: z13 :: z14 :: z15 :: z16 :: z17 :: z18 :: z19 :: z20 :: z21 :: z22 :: z23 :: z24 :: z25 :: z26 :: z27 :: z28 :: z29 :: z30 :: z31 :: z32 :: z33 :: z34 :: z35 :: z36 :: z37 :: z38 :: z39 :: z40 :: z41 :: z42 :: z43 :: z44 :: z45 :: z46 :: z47 :: z48 :: z49 :: z50 :: z51 :: z52 :: z53 :: z54 :: z55 :: z56 :: z57 :: z58 :: z59 :: z60 :: z61 :: z62 :: z63 :: z64 :: z65 :: z66 :: z67 :: z68 :: z69 :: z70 :: z71 :: z72 :: []), defers := [] } u := by
  have C : aw6C Q u z0 z2 z8 z9 z10 z11 z12 z13 z14 z15 z16 z17 z18 z19 z20 z21 z22 z23 z24 z25 z26 z27 z28 z29 z30 z31 z32 z33 z34 z35 z36 z37 z38 z39 z40 z41 z42 z43 z44 z45 z46 z47 z48 z49 z50 z51 z52 z53 z54 z55 z56 z57 z58 z59 z60 z61 z62 z63 z64 z65 z66 z67 z68 z69 z70 z71 z72 b1 b3 b4 b6 m z := ⟨hQ, m0, m1, m2, m3, m31, hz, hb1, nb1, hb3, nb3, hb4, nb4, hb6, nb6, H⟩
  refine wp_region_held_drew (S := (Kp [] u)) (by kernel_rfl) (Kp.drew _ u) (fun hS' => ?_)
  refine wpAnyH_take (i := 0) (oi := aw6Op0) (v := .pointer (some ⟨b3, 0, none⟩)) rfl (by kernel_rfl) (by kernel_rfl) (by kernel_rfl) (fun _ _ _ => hQ _ _ _ _ _) (Or.inl ⟨by kernel_rfl, fun _ _ => by kernel_rfl⟩) hS' ?_
  refine wpAnyH_take (i := 1) (oi := aw6Op1) (v := .int .u8 ((195 : Nat) : Int)) rfl (by kernel_rfl) (by kernel_rfl) (by kernel_rfl) (fun _ _ _ => hQ _ _ _ _ _) (y8 (by kernel_rfl) _ rfl b3 0 (by kernel_rfl) m (fun _ h => h.keep _ _ _ nb3 hb3) (by omega) 195 m0) hS' ?_
  refine wpAnyH_take (i := 2) (oi := aw6Op2) (v := .bool true) rfl (by kernel_rfl) (by kernel_rfl) (by kernel_rfl) (fun _ _ _ => hQ _ _ _ _ _) (Or.inl ⟨by kernel_rfl, fun _ _ => by kernel_rfl⟩) hS' ?_
  refine wpAnyH_at (listed' := (List.toArray (true :: true :: true :: false :: false :: false :: false :: false :: false :: false :: false :: false :: false :: false :: false :: false :: false :: false :: false :: false :: false :: false :: false :: false :: false :: false :: false :: false :: false :: false :: false :: false :: false :: false :: false :: false :: false :: false :: false :: false :: false :: false :: false :: false :: false :: false :: false :: false :: false :: []))) (a' := { tmps := List.toArray (z0 :: (.pointer (some ⟨b1, 0, none⟩)) :: z2 :: (.pointer (some ⟨b3, 0, none⟩)) :: (.pointer (some ⟨b4, 0, none⟩)) :: (.bool true) :: (.pointer (some ⟨b6, 0, none⟩)) :: (.bool false) :: z8 :: z9 :: z10 :: z11 :: z12 :: z13 :: z14 :: z15 :: z16 :: z17 :: z18 :: z19 :: z20 :: z21 :: z22 :: z23 :: z24 :: (.pointer (some ⟨b3, 0, none⟩)) :: (.int .u8 ((195 : Nat) : Int)) :: (.bool true) :: z28 :: z29 :: z30 :: z31 :: z32 :: z33 :: z34 :: z35 :: z36 :: z37 :: z38 :: z39 :: z40 :: z41 :: z42 :: z43 :: z44 :: z45 :: z46 :: z47 :: z48 :: z49 :: z50 :: z51 :: z52 :: z53 :: z54 :: z55 :: z56 :: z57 :: z58 :: z59 :: z60 :: z61 :: z62 :: z63 :: z64 :: z65 :: z66 :: z67 :: z68 :: z69 :: z70 :: z71 :: z72 :: []), defers := [] }) (by kernel_rfl) (by kernel_rfl) ?_
  refine wpAnyH_take (i := 3) (oi := aw6Op3) (v := .bool true) rfl (by kernel_rfl) (by kernel_rfl) (by kernel_rfl) (fun _ _ _ => hQ _ _ _ _ _) (Or.inl ⟨by kernel_rfl, fun _ _ => by kernel_rfl⟩) hS' ?_
  refine wpAnyH_take (i := 4) (oi := aw6Op4) (v := .pointer (some ⟨b3, 1, none⟩)) rfl (by kernel_rfl) (by kernel_rfl) (by kernel_rfl) (fun _ _ _ => hQ _ _ _ _ _) (Or.inl ⟨by kernel_rfl, fun _ _ => by kernel_rfl⟩) hS' ?_
  refine wpAnyH_take (i := 5) (oi := aw6Op5) (v := .int .u8 ((218 : Nat) : Int)) rfl (by kernel_rfl) (by kernel_rfl) (by kernel_rfl) (fun _ _ _ => hQ _ _ _ _ _) (y8 (by kernel_rfl) _ rfl b3 1 (by kernel_rfl) m (fun _ h => h.keep _ _ _ nb3 hb3) (by omega) 218 m1) hS' ?_
  refine wpAnyH_at (listed' := (List.toArray (true :: true :: true :: true :: true :: true :: false :: false :: false :: false :: false :: false :: false :: false :: false :: false :: false :: false :: false :: false :: false :: false :: false :: false :: false :: false :: false :: false :: false :: false :: false :: false :: false :: false :: false :: false :: false :: false :: false :: false :: false :: false :: false :: false :: false :: false :: false :: false :: false :: []))) (a' := { tmps := List.toArray (z0 :: (.pointer (some ⟨b1, 0, none⟩)) :: z2 :: (.pointer (some ⟨b3, 0, none⟩)) :: (.pointer (some ⟨b4, 0, none⟩)) :: (.bool true) :: (.pointer (some ⟨b6, 0, none⟩)) :: (.bool false) :: z8 :: z9 :: z10 :: z11 :: z12 :: z13 :: z14 :: z15 :: z16 :: z17 :: z18 :: z19 :: z20 :: z21 :: z22 :: z23 :: z24 :: (.pointer (some ⟨b3, 0, none⟩)) :: (.int .u8 ((195 : Nat) : Int)) :: (.bool true) :: (.bool true) :: (.pointer (some ⟨b3, 1, none⟩)) :: (.int .u8 ((218 : Nat) : Int)) :: z31 :: z32 :: z33 :: z34 :: z35 :: z36 :: z37 :: z38 :: z39 :: z40 :: z41 :: z42 :: z43 :: z44 :: z45 :: z46 :: z47 :: z48 :: z49 :: z50 :: z51 :: z52 :: z53 :: z54 :: z55 :: z56 :: z57 :: z58 :: z59 :: z60 :: z61 :: z62 :: z63 :: z64 :: z65 :: z66 :: z67 :: z68 :: z69 :: z70 :: z71 :: z72 :: []), defers := [] }) (by kernel_rfl) (by kernel_rfl) ?_
  refine wpAnyH_take (i := 6) (oi := aw6Op6) (v := .bool true) rfl (by kernel_rfl) (by kernel_rfl) (by kernel_rfl) (fun _ _ _ => hQ _ _ _ _ _) (Or.inl ⟨by kernel_rfl, fun _ _ => by kernel_rfl⟩) hS' ?_
  refine wpAnyH_take (i := 7) (oi := aw6Op7) (v := .bool true) rfl (by kernel_rfl) (by kernel_rfl) (by kernel_rfl) (fun _ _ _ => hQ _ _ _ _ _) (Or.inl ⟨by kernel_rfl, fun _ _ => by kernel_rfl⟩) hS' ?_
  refine wpAnyH_take (i := 8) (oi := aw6Op8) (v := .bool true) rfl (by kernel_rfl) (by kernel_rfl) (by kernel_rfl) (fun _ _ _ => hQ _ _ _ _ _) (Or.inl ⟨by kernel_rfl, fun _ _ => by kernel_rfl⟩) hS' ?_
  refine wpAnyH_at (listed' := (List.toArray (true :: true :: true :: true :: true :: true :: true :: true :: true :: false :: false :: false :: false :: false :: false :: false :: false :: false :: false :: false :: false :: false :: false :: false :: false :: false :: false :: false :: false :: false :: false :: false :: false :: false :: false :: false :: false :: false :: false :: false :: false :: false :: false :: false :: false :: false :: false :: false :: false :: []))) (a' := { tmps := List.toArray (z0 :: (.pointer (some ⟨b1, 0, none⟩)) :: z2 :: (.pointer (some ⟨b3, 0, none⟩)) :: (.pointer (some ⟨b4, 0, none⟩)) :: (.bool true) :: (.pointer (some ⟨b6, 0, none⟩)) :: (.bool false) :: z8 :: z9 :: z10 :: z11 :: z12 :: z13 :: z14 :: z15 :: z16 :: z17 :: z18 :: z19 :: z20 :: z21 :: z22 :: z23 :: z24 :: (.pointer (some ⟨b3, 0, none⟩)) :: (.int .u8 ((195 : Nat) : Int)) :: (.bool true) :: (.bool true) :: (.pointer (some ⟨b3, 1, none⟩)) :: (.int .u8 ((218 : Nat) : Int)) :: (.bool true) :: (.bool true) :: (.bool true) :: z34 :: z35 :: z36 :: z37 :: z38 :: z39 :: z40 :: z41 :: z42 :: z43 :: z44 :: z45 :: z46 :: z47 :: z48 :: z49 :: z50 :: z51 :: z52 :: z53 :: z54 :: z55 :: z56 :: z57 :: z58 :: z59 :: z60 :: z61 :: z62 :: z63 :: z64 :: z65 :: z66 :: z67 :: z68 :: z69 :: z70 :: z71 :: z72 :: []), defers := [] }) (by kernel_rfl) (by kernel_rfl) ?_
  refine wpAnyH_take (i := 9) (oi := aw6Op9) (v := .pointer (some ⟨b3, 2, none⟩)) rfl (by kernel_rfl) (by kernel_rfl) (by kernel_rfl) (fun _ _ _ => hQ _ _ _ _ _) (Or.inl ⟨by kernel_rfl, fun _ _ => by kernel_rfl⟩) hS' ?_
  refine wpAnyH_take (i := 10) (oi := aw6Op10) (v := .int .u8 ((85 : Nat) : Int)) rfl (by kernel_rfl) (by kernel_rfl) (by kernel_rfl) (fun _ _ _ => hQ _ _ _ _ _) (y8 (by kernel_rfl) _ rfl b3 2 (by kernel_rfl) m (fun _ h => h.keep _ _ _ nb3 hb3) (by omega) 85 m2) hS' ?_
  refine wpAnyH_take (i := 11) (oi := aw6Op11) (v := .bool true) rfl (by kernel_rfl) (by kernel_rfl) (by kernel_rfl) (fun _ _ _ => hQ _ _ _ _ _) (Or.inl ⟨by kernel_rfl, fun _ _ => by kernel_rfl⟩) hS' ?_
  refine wpAnyH_at (listed' := (List.toArray (true :: true :: true :: true :: true :: true :: true :: true :: true :: true :: true :: true :: false :: false :: false :: false :: false :: false :: false :: false :: false :: false :: false :: false :: false :: false :: false :: false :: false :: false :: false :: false :: false :: false :: false :: false :: false :: false :: false :: false :: false :: false :: false :: false :: false :: false :: false :: false :: false :: []))) (a' := { tmps := List.toArray (z0 :: (.pointer (some ⟨b1, 0, none⟩)) :: z2 :: (.pointer (some ⟨b3, 0, none⟩)) :: (.pointer (some ⟨b4, 0, none⟩)) :: (.bool true) :: (.pointer (some ⟨b6, 0, none⟩)) :: (.bool false) :: z8 :: z9 :: z10 :: z11 :: z12 :: z13 :: z14 :: z15 :: z16 :: z17 :: z18 :: z19 :: z20 :: z21 :: z22 :: z23 :: z24 :: (.pointer (some ⟨b3, 0, none⟩)) :: (.int .u8 ((195 : Nat) : Int)) :: (.bool true) :: (.bool true) :: (.pointer (some ⟨b3, 1, none⟩)) :: (.int .u8 ((218 : Nat) : Int)) :: (.bool true) :: (.bool true) :: (.bool true) :: (.pointer (some ⟨b3, 2, none⟩)) :: (.int .u8 ((85 : Nat) : Int)) :: (.bool true) :: z37 :: z38 :: z39 :: z40 :: z41 :: z42 :: z43 :: z44 :: z45 :: z46 :: z47 :: z48 :: z49 :: z50 :: z51 :: z52 :: z53 :: z54 :: z55 :: z56 :: z57 :: z58 :: z59 :: z60 :: z61 :: z62 :: z63 :: z64 :: z65 :: z66 :: z67 :: z68 :: z69 :: z70 :: z71 :: z72 :: []), defers := [] }) (by kernel_rfl) (by kernel_rfl) ?_
  refine wpAnyH_take (i := 12) (oi := aw6Op12) (v := .bool true) rfl (by kernel_rfl) (by kernel_rfl) (by kernel_rfl) (fun _ _ _ => hQ _ _ _ _ _) (Or.inl ⟨by kernel_rfl, fun _ _ => by kernel_rfl⟩) hS' ?_
  refine wpAnyH_take (i := 13) (oi := aw6Op13) (v := .bool true) rfl (by kernel_rfl) (by kernel_rfl) (by kernel_rfl) (fun _ _ _ => hQ _ _ _ _ _) (Or.inl ⟨by kernel_rfl, fun _ _ => by kernel_rfl⟩) hS' ?_
  refine wpAnyH_take (i := 14) (oi := aw6Op14) (v := .pointer (some ⟨b3, 3, none⟩)) rfl (by kernel_rfl) (by kernel_rfl) (by kernel_rfl) (fun _ _ _ => hQ _ _ _ _ _) (Or.inl ⟨by kernel_rfl, fun _ _ => by kernel_rfl⟩) hS' ?_
  refine wpAnyH_at (listed' := (List.toArray (true :: true :: true :: true :: true :: true :: true :: true :: true :: true :: true :: true :: true :: true :: true :: false :: false :: false :: false :: false :: false :: false :: false :: false :: false :: false :: false :: false :: false :: false :: false :: false :: false :: false :: false :: false :: false :: false :: false :: false :: false :: false :: false :: false :: false :: false :: false :: false :: false :: []))) (a' := { tmps := List.toArray (z0 :: (.pointer (some ⟨b1, 0, none⟩)) :: z2 :: (.pointer (some ⟨b3, 0, none⟩)) :: (.pointer (some ⟨b4, 0, none⟩)) :: (.bool true) :: (.pointer (some ⟨b6, 0, none⟩)) :: (.bool false) :: z8 :: z9 :: z10 :: z11 :: z12 :: z13 :: z14 :: z15 :: z16 :: z17 :: z18 :: z19 :: z20 :: z21 :: z22 :: z23 :: z24 :: (.pointer (some ⟨b3, 0, none⟩)) :: (.int .u8 ((195 : Nat) : Int)) :: (.bool true) :: (.bool true) :: (.pointer (some ⟨b3, 1, none⟩)) :: (.int .u8 ((218 : Nat) : Int)) :: (.bool true) :: (.bool true) :: (.bool true) :: (.pointer (some ⟨b3, 2, none⟩)) :: (.int .u8 ((85 : Nat) : Int)) :: (.bool true) :: (.bool true) :: (.bool true) :: (.pointer (some ⟨b3, 3, none⟩)) :: z40 :: z41 :: z42 :: z43 :: z44 :: z45 :: z46 :: z47 :: z48 :: z49 :: z50 :: z51 :: z52 :: z53 :: z54 :: z55 :: z56 :: z57 :: z58 :: z59 :: z60 :: z61 :: z62 :: z63 :: z64 :: z65 :: z66 :: z67 :: z68 :: z69 :: z70 :: z71 :: z72 :: []), defers := [] }) (by kernel_rfl) (by kernel_rfl) ?_
  refine wpAnyH_take (i := 15) (oi := aw6Op15) (v := .int .u8 ((55 : Nat) : Int)) rfl (by kernel_rfl) (by kernel_rfl) (by kernel_rfl) (fun _ _ _ => hQ _ _ _ _ _) (y8 (by kernel_rfl) _ rfl b3 3 (by kernel_rfl) m (fun _ h => h.keep _ _ _ nb3 hb3) (by omega) 55 m3) hS' ?_
  refine wpAnyH_take (i := 16) (oi := aw6Op16) (v := .bool true) rfl (by kernel_rfl) (by kernel_rfl) (by kernel_rfl) (fun _ _ _ => hQ _ _ _ _ _) (Or.inl ⟨by kernel_rfl, fun _ _ => by kernel_rfl⟩) hS' ?_
  refine wpAnyH_take (i := 17) (oi := aw6Op17) (v := .bool true) rfl (by kernel_rfl) (by kernel_rfl) (by kernel_rfl) (fun _ _ _ => hQ _ _ _ _ _) (Or.inl ⟨by kernel_rfl, fun _ _ => by kernel_rfl⟩) hS' ?_
  refine wpAnyH_at (listed' := (List.toArray (true :: true :: true :: true :: true :: true :: true :: true :: true :: true :: true :: true :: true :: true :: true :: true :: true :: true :: false :: false :: false :: false :: false :: false :: false :: false :: false :: false :: false :: false :: false :: false :: false :: false :: false :: false :: false :: false :: false :: false :: false :: false :: false :: false :: false :: false :: false :: false :: false :: []))) (a' := { tmps := List.toArray (z0 :: (.pointer (some ⟨b1, 0, none⟩)) :: z2 :: (.pointer (some ⟨b3, 0, none⟩)) :: (.pointer (some ⟨b4, 0, none⟩)) :: (.bool true) :: (.pointer (some ⟨b6, 0, none⟩)) :: (.bool false) :: z8 :: z9 :: z10 :: z11 :: z12 :: z13 :: z14 :: z15 :: z16 :: z17 :: z18 :: z19 :: z20 :: z21 :: z22 :: z23 :: z24 :: (.pointer (some ⟨b3, 0, none⟩)) :: (.int .u8 ((195 : Nat) : Int)) :: (.bool true) :: (.bool true) :: (.pointer (some ⟨b3, 1, none⟩)) :: (.int .u8 ((218 : Nat) : Int)) :: (.bool true) :: (.bool true) :: (.bool true) :: (.pointer (some ⟨b3, 2, none⟩)) :: (.int .u8 ((85 : Nat) : Int)) :: (.bool true) :: (.bool true) :: (.bool true) :: (.pointer (some ⟨b3, 3, none⟩)) :: (.int .u8 ((55 : Nat) : Int)) :: (.bool true) :: (.bool true) :: z43 :: z44 :: z45 :: z46 :: z47 :: z48 :: z49 :: z50 :: z51 :: z52 :: z53 :: z54 :: z55 :: z56 :: z57 :: z58 :: z59 :: z60 :: z61 :: z62 :: z63 :: z64 :: z65 :: z66 :: z67 :: z68 :: z69 :: z70 :: z71 :: z72 :: []), defers := [] }) (by kernel_rfl) (by kernel_rfl) ?_
  refine wpAnyH_take (i := 18) (oi := aw6Op18) (v := .bool true) rfl (by kernel_rfl) (by kernel_rfl) (by kernel_rfl) (fun _ _ _ => hQ _ _ _ _ _) (Or.inl ⟨by kernel_rfl, fun _ _ => by kernel_rfl⟩) hS' ?_
  refine wpAnyH_take (i := 19) (oi := aw6Op19) (v := .pointer (some ⟨b3, 31, none⟩)) rfl (by kernel_rfl) (by kernel_rfl) (by kernel_rfl) (fun _ _ _ => hQ _ _ _ _ _) (Or.inl ⟨by kernel_rfl, fun _ _ => by kernel_rfl⟩) hS' ?_
  refine wpAnyH_take (i := 20) (oi := aw6Op20) (v := .int .u8 ((82 : Nat) : Int)) rfl (by kernel_rfl) (by kernel_rfl) (by kernel_rfl) (fun _ _ _ => hQ _ _ _ _ _) (y8 (by kernel_rfl) _ rfl b3 31 (by kernel_rfl) m (fun _ h => h.keep _ _ _ nb3 hb3) (by omega) 82 m31) hS' ?_
  refine wpAnyH_at (listed' := (List.toArray (true :: true :: true :: true :: true :: true :: true :: true :: true :: true :: true :: true :: true :: true :: true :: true :: true :: true :: true :: true :: true :: false :: false :: false :: false :: false :: false :: false :: false :: false :: false :: false :: false :: false :: false :: false :: false :: false :: false :: false :: false :: false :: false :: false :: false :: false :: false :: false :: false :: []))) (a' := { tmps := List.toArray (z0 :: (.pointer (some ⟨b1, 0, none⟩)) :: z2 :: (.pointer (some ⟨b3, 0, none⟩)) :: (.pointer (some ⟨b4, 0, none⟩)) :: (.bool true) :: (.pointer (some ⟨b6, 0, none⟩)) :: (.bool false) :: z8 :: z9 :: z10 :: z11 :: z12 :: z13 :: z14 :: z15 :: z16 :: z17 :: z18 :: z19 :: z20 :: z21 :: z22 :: z23 :: z24 :: (.pointer (some ⟨b3, 0, none⟩)) :: (.int .u8 ((195 : Nat) : Int)) :: (.bool true) :: (.bool true) :: (.pointer (some ⟨b3, 1, none⟩)) :: (.int .u8 ((218 : Nat) : Int)) :: (.bool true) :: (.bool true) :: (.bool true) :: (.pointer (some ⟨b3, 2, none⟩)) :: (.int .u8 ((85 : Nat) : Int)) :: (.bool true) :: (.bool true) :: (.bool true) :: (.pointer (some ⟨b3, 3, none⟩)) :: (.int .u8 ((55 : Nat) : Int)) :: (.bool true) :: (.bool true) :: (.bool true) :: (.pointer (some ⟨b3, 31, none⟩)) :: (.int .u8 ((82 : Nat) : Int)) :: z46 :: z47 :: z48 :: z49 :: z50 :: z51 :: z52 :: z53 :: z54 :: z55 :: z56 :: z57 :: z58 :: z59 :: z60 :: z61 :: z62 :: z63 :: z64 :: z65 :: z66 :: z67 :: z68 :: z69 :: z70 :: z71 :: z72 :: []), defers := [] }) (by kernel_rfl) (by kernel_rfl) ?_
  refine wpAnyH_take (i := 21) (oi := aw6Op21) (v := .bool true) rfl (by kernel_rfl) (by kernel_rfl) (by kernel_rfl) (fun _ _ _ => hQ _ _ _ _ _) (Or.inl ⟨by kernel_rfl, fun _ _ => by kernel_rfl⟩) hS' ?_
  refine wpAnyH_take (i := 22) (oi := aw6Op22) (v := .bool true) rfl (by kernel_rfl) (by kernel_rfl) (by kernel_rfl) (fun _ _ _ => hQ _ _ _ _ _) (Or.inl ⟨by kernel_rfl, fun _ _ => by kernel_rfl⟩) hS' ?_
  refine wpAnyH_take (i := 23) (oi := aw6Op23) (v := .bool true) rfl (by kernel_rfl) (by kernel_rfl) (by kernel_rfl) (fun _ _ _ => hQ _ _ _ _ _) (Or.inl ⟨by kernel_rfl, fun _ _ => by kernel_rfl⟩) hS' ?_
  refine wpAnyH_at (listed' := (List.toArray (true :: true :: true :: true :: true :: true :: true :: true :: true :: true :: true :: true :: true :: true :: true :: true :: true :: true :: true :: true :: true :: true :: true :: true :: false :: false :: false :: false :: false :: false :: false :: false :: false :: false :: false :: false :: false :: false :: false :: false :: false :: false :: false :: false :: false :: false :: false :: false :: false :: []))) (a' := { tmps := List.toArray (z0 :: (.pointer (some ⟨b1, 0, none⟩)) :: z2 :: (.pointer (some ⟨b3, 0, none⟩)) :: (.pointer (some ⟨b4, 0, none⟩)) :: (.bool true) :: (.pointer (some ⟨b6, 0, none⟩)) :: (.bool false) :: z8 :: z9 :: z10 :: z11 :: z12 :: z13 :: z14 :: z15 :: z16 :: z17 :: z18 :: z19 :: z20 :: z21 :: z22 :: z23 :: z24 :: (.pointer (some ⟨b3, 0, none⟩)) :: (.int .u8 ((195 : Nat) : Int)) :: (.bool true) :: (.bool true) :: (.pointer (some ⟨b3, 1, none⟩)) :: (.int .u8 ((218 : Nat) : Int)) :: (.bool true) :: (.bool true) :: (.bool true) :: (.pointer (some ⟨b3, 2, none⟩)) :: (.int .u8 ((85 : Nat) : Int)) :: (.bool true) :: (.bool true) :: (.bool true) :: (.pointer (some ⟨b3, 3, none⟩)) :: (.int .u8 ((55 : Nat) : Int)) :: (.bool true) :: (.bool true) :: (.bool true) :: (.pointer (some ⟨b3, 31, none⟩)) :: (.int .u8 ((82 : Nat) : Int)) :: (.bool true) :: (.bool true) :: (.bool true) :: z49 :: z50 :: z51 :: z52 :: z53 :: z54 :: z55 :: z56 :: z57 :: z58 :: z59 :: z60 :: z61 :: z62 :: z63 :: z64 :: z65 :: z66 :: z67 :: z68 :: z69 :: z70 :: z71 :: z72 :: []), defers := [] }) (by kernel_rfl) (by kernel_rfl) ?_
  refine wpAnyH_take (i := 24) (oi := aw6Op24) (v := .agg (vals .u8 32 m)) rfl (by kernel_rfl) (by kernel_rfl) (by kernel_rfl) (fun _ _ _ => hQ _ _ _ _ _) (yields_S (fun _ h => h.keep _ _ _ nb4 hb4) (by kernel_rfl) 22 _ rfl (by kernel_rfl) _ Try.underlying22 rfl (size_by _)) hS' ?_
  refine wpAnyH_take (i := 25) (oi := aw6Op25) (v := .agg (vals .u8 32 m)) rfl (by kernel_rfl) (by kernel_rfl) (by kernel_rfl) (fun _ _ _ => hQ _ _ _ _ _) (yields_S (fun _ h => h.keep _ _ _ nb3 hb3) (by kernel_rfl) 22 _ rfl (by kernel_rfl) _ Try.underlying22 rfl (size_by _)) hS' ?_
  refine wpAnyH_take (i := 26) (oi := aw6Op26) (v := .bool true) rfl (by kernel_rfl) (by kernel_rfl) (by kernel_rfl) (fun _ _ _ => hQ _ _ _ _ _) (yeq (by kernel_rfl) _ _ m m rfl (by kernel_rfl) (by kernel_rfl) (same_self _)) hS' ?_
  refine wpAnyH_at (listed' := (List.toArray (true :: true :: true :: true :: true :: true :: true :: true :: true :: true :: true :: true :: true :: true :: true :: true :: true :: true :: true :: true :: true :: true :: true :: true :: true :: true :: true :: false :: false :: false :: false :: false :: false :: false :: false :: false :: false :: false :: false :: false :: false :: false :: false :: false :: false :: false :: false :: false :: false :: []))) (a' := { tmps := List.toArray (z0 :: (.pointer (some ⟨b1, 0, none⟩)) :: z2 :: (.pointer (some ⟨b3, 0, none⟩)) :: (.pointer (some ⟨b4, 0, none⟩)) :: (.bool true) :: (.pointer (some ⟨b6, 0, none⟩)) :: (.bool false) :: z8 :: z9 :: z10 :: z11 :: z12 :: z13 :: z14 :: z15 :: z16 :: z17 :: z18 :: z19 :: z20 :: z21 :: z22 :: z23 :: z24 :: (.pointer (some ⟨b3, 0, none⟩)) :: (.int .u8 ((195 : Nat) : Int)) :: (.bool true) :: (.bool true) :: (.pointer (some ⟨b3, 1, none⟩)) :: (.int .u8 ((218 : Nat) : Int)) :: (.bool true) :: (.bool true) :: (.bool true) :: (.pointer (some ⟨b3, 2, none⟩)) :: (.int .u8 ((85 : Nat) : Int)) :: (.bool true) :: (.bool true) :: (.bool true) :: (.pointer (some ⟨b3, 3, none⟩)) :: (.int .u8 ((55 : Nat) : Int)) :: (.bool true) :: (.bool true) :: (.bool true) :: (.pointer (some ⟨b3, 31, none⟩)) :: (.int .u8 ((82 : Nat) : Int)) :: (.bool true) :: (.bool true) :: (.bool true) :: (.agg (vals .u8 32 m)) :: (.agg (vals .u8 32 m)) :: (.bool true) :: z52 :: z53 :: z54 :: z55 :: z56 :: z57 :: z58 :: z59 :: z60 :: z61 :: z62 :: z63 :: z64 :: z65 :: z66 :: z67 :: z68 :: z69 :: z70 :: z71 :: z72 :: []), defers := [] }) (by kernel_rfl) (by kernel_rfl) ?_
  refine wpAnyH_take (i := 27) (oi := aw6Op27) (v := .bool true) rfl (by kernel_rfl) (by kernel_rfl) (by kernel_rfl) (fun _ _ _ => hQ _ _ _ _ _) (Or.inl ⟨by kernel_rfl, fun _ _ => by kernel_rfl⟩) hS' ?_
  refine wpAnyH_take (i := 28) (oi := aw6Op28) (v := .bool true) rfl (by kernel_rfl) (by kernel_rfl) (by kernel_rfl) (fun _ _ _ => hQ _ _ _ _ _) (Or.inl ⟨by kernel_rfl, fun _ _ => by kernel_rfl⟩) hS' ?_
  refine wpAnyH_take (i := 29) (oi := aw6Op29) (v := .bool true) rfl (by kernel_rfl) (by kernel_rfl) (by kernel_rfl) (fun _ _ _ => hQ _ _ _ _ _) (Or.inl ⟨by kernel_rfl, fun _ _ => by kernel_rfl⟩) hS' ?_
  refine wpAnyH_at (listed' := (List.toArray (true :: true :: true :: true :: true :: true :: true :: true :: true :: true :: true :: true :: true :: true :: true :: true :: true :: true :: true :: true :: true :: true :: true :: true :: true :: true :: true :: true :: true :: true :: false :: false :: false :: false :: false :: false :: false :: false :: false :: false :: false :: false :: false :: false :: false :: false :: false :: false :: false :: []))) (a' := { tmps := List.toArray (z0 :: (.pointer (some ⟨b1, 0, none⟩)) :: z2 :: (.pointer (some ⟨b3, 0, none⟩)) :: (.pointer (some ⟨b4, 0, none⟩)) :: (.bool true) :: (.pointer (some ⟨b6, 0, none⟩)) :: (.bool false) :: z8 :: z9 :: z10 :: z11 :: z12 :: z13 :: z14 :: z15 :: z16 :: z17 :: z18 :: z19 :: z20 :: z21 :: z22 :: z23 :: z24 :: (.pointer (some ⟨b3, 0, none⟩)) :: (.int .u8 ((195 : Nat) : Int)) :: (.bool true) :: (.bool true) :: (.pointer (some ⟨b3, 1, none⟩)) :: (.int .u8 ((218 : Nat) : Int)) :: (.bool true) :: (.bool true) :: (.bool true) :: (.pointer (some ⟨b3, 2, none⟩)) :: (.int .u8 ((85 : Nat) : Int)) :: (.bool true) :: (.bool true) :: (.bool true) :: (.pointer (some ⟨b3, 3, none⟩)) :: (.int .u8 ((55 : Nat) : Int)) :: (.bool true) :: (.bool true) :: (.bool true) :: (.pointer (some ⟨b3, 31, none⟩)) :: (.int .u8 ((82 : Nat) : Int)) :: (.bool true) :: (.bool true) :: (.bool true) :: (.agg (vals .u8 32 m)) :: (.agg (vals .u8 32 m)) :: (.bool true) :: (.bool true) :: (.bool true) :: (.bool true) :: z55 :: z56 :: z57 :: z58 :: z59 :: z60 :: z61 :: z62 :: z63 :: z64 :: z65 :: z66 :: z67 :: z68 :: z69 :: z70 :: z71 :: z72 :: []), defers := [] }) (by kernel_rfl) (by kernel_rfl) ?_
  refine wpAnyH_take (i := 30) (oi := aw6Op30) (v := .bool true) rfl (by kernel_rfl) (by kernel_rfl) (by kernel_rfl) (fun _ _ _ => hQ _ _ _ _ _) (Or.inl ⟨by kernel_rfl, fun _ _ => by kernel_rfl⟩) hS' ?_
  refine wpAnyH_take (i := 31) (oi := aw6Op31) (v := .bool true) rfl (by kernel_rfl) (by kernel_rfl) (by kernel_rfl) (fun _ _ _ => hQ _ _ _ _ _) (Or.inl ⟨by kernel_rfl, fun _ _ => by kernel_rfl⟩) hS' ?_
  refine wpAnyH_take (i := 32) (oi := aw6Op32) (v := .agg (vals .u8 32 z)) rfl (by kernel_rfl) (by kernel_rfl) (by kernel_rfl) (fun _ _ _ => hQ _ _ _ _ _) (yields_S (fun _ h => h.keep _ _ _ nb6 hb6) (by kernel_rfl) 22 _ rfl (by kernel_rfl) _ Try.underlying22 rfl (size_by _)) hS' ?_
  refine wpAnyH_at (listed' := (List.toArray (true :: true :: true :: true :: true :: true :: true :: true :: true :: true :: true :: true :: true :: true :: true :: true :: true :: true :: true :: true :: true :: true :: true :: true :: true :: true :: true :: true :: true :: true :: true :: true :: true :: false :: false :: false :: false :: false :: false :: false :: false :: false :: false :: false :: false :: false :: false :: false :: false :: []))) (a' := { tmps := List.toArray (z0 :: (.pointer (some ⟨b1, 0, none⟩)) :: z2 :: (.pointer (some ⟨b3, 0, none⟩)) :: (.pointer (some ⟨b4, 0, none⟩)) :: (.bool true) :: (.pointer (some ⟨b6, 0, none⟩)) :: (.bool false) :: z8 :: z9 :: z10 :: z11 :: z12 :: z13 :: z14 :: z15 :: z16 :: z17 :: z18 :: z19 :: z20 :: z21 :: z22 :: z23 :: z24 :: (.pointer (some ⟨b3, 0, none⟩)) :: (.int .u8 ((195 : Nat) : Int)) :: (.bool true) :: (.bool true) :: (.pointer (some ⟨b3, 1, none⟩)) :: (.int .u8 ((218 : Nat) : Int)) :: (.bool true) :: (.bool true) :: (.bool true) :: (.pointer (some ⟨b3, 2, none⟩)) :: (.int .u8 ((85 : Nat) : Int)) :: (.bool true) :: (.bool true) :: (.bool true) :: (.pointer (some ⟨b3, 3, none⟩)) :: (.int .u8 ((55 : Nat) : Int)) :: (.bool true) :: (.bool true) :: (.bool true) :: (.pointer (some ⟨b3, 31, none⟩)) :: (.int .u8 ((82 : Nat) : Int)) :: (.bool true) :: (.bool true) :: (.bool true) :: (.agg (vals .u8 32 m)) :: (.agg (vals .u8 32 m)) :: (.bool true) :: (.bool true) :: (.bool true) :: (.bool true) :: (.bool true) :: (.bool true) :: (.agg (vals .u8 32 z)) :: z58 :: z59 :: z60 :: z61 :: z62 :: z63 :: z64 :: z65 :: z66 :: z67 :: z68 :: z69 :: z70 :: z71 :: z72 :: []), defers := [] }) (by kernel_rfl) (by kernel_rfl) ?_
  refine wpAnyH_take (i := 33) (oi := aw6Op33) (v := .agg (vals .u8 32 (fun _ => 0))) rfl (by kernel_rfl) (by kernel_rfl) (by kernel_rfl) (fun _ _ _ => hQ _ _ _ _ _) (Or.inl ⟨by kernel_rfl, fun _ _ => by kernel_rfl⟩) hS' ?_
  refine wpAnyH_take (i := 34) (oi := aw6Op34) (v := .bool true) rfl (by kernel_rfl) (by kernel_rfl) (by kernel_rfl) (fun _ _ _ => hQ _ _ _ _ _) (yeq (by kernel_rfl) _ _ z (fun _ => 0) rfl (by kernel_rfl) (by kernel_rfl) hz) hS' ?_
  refine wpAnyH_take (i := 35) (oi := aw6Op35) (v := .bool true) rfl (by kernel_rfl) (by kernel_rfl) (by kernel_rfl) (fun _ _ _ => hQ _ _ _ _ _) (Or.inl ⟨by kernel_rfl, fun _ _ => by kernel_rfl⟩) hS' ?_
  refine wpAnyH_at (listed' := (List.toArray (true :: true :: true :: true :: true :: true :: true :: true :: true :: true :: true :: true :: true :: true :: true :: true :: true :: true :: true :: true :: true :: true :: true :: true :: true :: true :: true :: true :: true :: true :: true :: true :: true :: true :: true :: true :: false :: false :: false :: false :: false :: false :: false :: false :: false :: false :: false :: false :: false :: []))) (a' := { tmps := List.toArray (z0 :: (.pointer (some ⟨b1, 0, none⟩)) :: z2 :: (.pointer (some ⟨b3, 0, none⟩)) :: (.pointer (some ⟨b4, 0, none⟩)) :: (.bool true) :: (.pointer (some ⟨b6, 0, none⟩)) :: (.bool false) :: z8 :: z9 :: z10 :: z11 :: z12 :: z13 :: z14 :: z15 :: z16 :: z17 :: z18 :: z19 :: z20 :: z21 :: z22 :: z23 :: z24 :: (.pointer (some ⟨b3, 0, none⟩)) :: (.int .u8 ((195 : Nat) : Int)) :: (.bool true) :: (.bool true) :: (.pointer (some ⟨b3, 1, none⟩)) :: (.int .u8 ((218 : Nat) : Int)) :: (.bool true) :: (.bool true) :: (.bool true) :: (.pointer (some ⟨b3, 2, none⟩)) :: (.int .u8 ((85 : Nat) : Int)) :: (.bool true) :: (.bool true) :: (.bool true) :: (.pointer (some ⟨b3, 3, none⟩)) :: (.int .u8 ((55 : Nat) : Int)) :: (.bool true) :: (.bool true) :: (.bool true) :: (.pointer (some ⟨b3, 31, none⟩)) :: (.int .u8 ((82 : Nat) : Int)) :: (.bool true) :: (.bool true) :: (.bool true) :: (.agg (vals .u8 32 m)) :: (.agg (vals .u8 32 m)) :: (.bool true) :: (.bool true) :: (.bool true) :: (.bool true) :: (.bool true) :: (.bool true) :: (.agg (vals .u8 32 z)) :: (.agg (vals .u8 32 (fun _ => 0))) :: (.bool true) :: (.bool true) :: z61 :: z62 :: z63 :: z64 :: z65 :: z66 :: z67 :: z68 :: z69 :: z70 :: z71 :: z72 :: []), defers := [] }) (by kernel_rfl) (by kernel_rfl) ?_
  refine wpAnyH_take (i := 36) (oi := aw6Op36) (v := .bool true) rfl (by kernel_rfl) (by kernel_rfl) (by kernel_rfl) (fun _ _ _ => hQ _ _ _ _ _) (Or.inl ⟨by kernel_rfl, fun _ _ => by kernel_rfl⟩) hS' ?_
  refine wpAnyH_take (i := 37) (oi := aw6Op37) (v := .bool false) rfl (by kernel_rfl) (by kernel_rfl) (by kernel_rfl) (fun _ _ _ => hQ _ _ _ _ _) (Or.inl ⟨by kernel_rfl, fun _ _ => by kernel_rfl⟩) hS' ?_
  refine wpAnyH_take (i := 38) (oi := aw6Op38) (v := .bool true) rfl (by kernel_rfl) (by kernel_rfl) (by kernel_rfl) (fun _ _ _ => hQ _ _ _ _ _) (Or.inl ⟨by kernel_rfl, fun _ _ => by kernel_rfl⟩) hS' ?_
  refine wpAnyH_at (listed' := (List.toArray (true :: true :: true :: true :: true :: true :: true :: true :: true :: true :: true :: true :: true :: true :: true :: true :: true :: true :: true :: true :: true :: true :: true :: true :: true :: true :: true :: true :: true :: true :: true :: true :: true :: true :: true :: true :: true :: true :: true :: false :: false :: false :: false :: false :: false :: false :: false :: false :: false :: []))) (a' := { tmps := List.toArray (z0 :: (.pointer (some ⟨b1, 0, none⟩)) :: z2 :: (.pointer (some ⟨b3, 0, none⟩)) :: (.pointer (some ⟨b4, 0, none⟩)) :: (.bool true) :: (.pointer (some ⟨b6, 0, none⟩)) :: (.bool false) :: z8 :: z9 :: z10 :: z11 :: z12 :: z13 :: z14 :: z15 :: z16 :: z17 :: z18 :: z19 :: z20 :: z21 :: z22 :: z23 :: z24 :: (.pointer (some ⟨b3, 0, none⟩)) :: (.int .u8 ((195 : Nat) : Int)) :: (.bool true) :: (.bool true) :: (.pointer (some ⟨b3, 1, none⟩)) :: (.int .u8 ((218 : Nat) : Int)) :: (.bool true) :: (.bool true) :: (.bool true) :: (.pointer (some ⟨b3, 2, none⟩)) :: (.int .u8 ((85 : Nat) : Int)) :: (.bool true) :: (.bool true) :: (.bool true) :: (.pointer (some ⟨b3, 3, none⟩)) :: (.int .u8 ((55 : Nat) : Int)) :: (.bool true) :: (.bool true) :: (.bool true) :: (.pointer (some ⟨b3, 31, none⟩)) :: (.int .u8 ((82 : Nat) : Int)) :: (.bool true) :: (.bool true) :: (.bool true) :: (.agg (vals .u8 32 m)) :: (.agg (vals .u8 32 m)) :: (.bool true) :: (.bool true) :: (.bool true) :: (.bool true) :: (.bool true) :: (.bool true) :: (.agg (vals .u8 32 z)) :: (.agg (vals .u8 32 (fun _ => 0))) :: (.bool true) :: (.bool true) :: (.bool true) :: (.bool false) :: (.bool true) :: z64 :: z65 :: z66 :: z67 :: z68 :: z69 :: z70 :: z71 :: z72 :: []), defers := [] }) (by kernel_rfl) (by kernel_rfl) ?_
  refine wpAnyH_take (i := 39) (oi := aw6Op39) (v := .bool true) rfl (by kernel_rfl) (by kernel_rfl) (by kernel_rfl) (fun _ _ _ => hQ _ _ _ _ _) (Or.inl ⟨by kernel_rfl, fun _ _ => by kernel_rfl⟩) hS' ?_
  refine wpAnyH_take (i := 40) (oi := aw6Op40) (v := .bool true) rfl (by kernel_rfl) (by kernel_rfl) (by kernel_rfl) (fun _ _ _ => hQ _ _ _ _ _) (Or.inl ⟨by kernel_rfl, fun _ _ => by kernel_rfl⟩) hS' ?_
  refine wpAnyH_take (i := 41) (oi := aw6Op41) (v := .agg (vals .u8 32 secB)) rfl (by kernel_rfl) (by kernel_rfl) (by kernel_rfl) (fun _ _ _ => hQ _ _ _ _ _) (yields_S (fun _ h => h.keep _ _ _ nb1 hb1) (by kernel_rfl) 22 _ rfl (by kernel_rfl) _ Try.underlying22 rfl (size_by _)) hS' ?_
  refine wpAnyH_at (listed' := (List.toArray (true :: true :: true :: true :: true :: true :: true :: true :: true :: true :: true :: true :: true :: true :: true :: true :: true :: true :: true :: true :: true :: true :: true :: true :: true :: true :: true :: true :: true :: true :: true :: true :: true :: true :: true :: true :: true :: true :: true :: true :: true :: true :: false :: false :: false :: false :: false :: false :: false :: []))) (a' := { tmps := List.toArray (z0 :: (.pointer (some ⟨b1, 0, none⟩)) :: z2 :: (.pointer (some ⟨b3, 0, none⟩)) :: (.pointer (some ⟨b4, 0, none⟩)) :: (.bool true) :: (.pointer (some ⟨b6, 0, none⟩)) :: (.bool false) :: z8 :: z9 :: z10 :: z11 :: z12 :: z13 :: z14 :: z15 :: z16 :: z17 :: z18 :: z19 :: z20 :: z21 :: z22 :: z23 :: z24 :: (.pointer (some ⟨b3, 0, none⟩)) :: (.int .u8 ((195 : Nat) : Int)) :: (.bool true) :: (.bool true) :: (.pointer (some ⟨b3, 1, none⟩)) :: (.int .u8 ((218 : Nat) : Int)) :: (.bool true) :: (.bool true) :: (.bool true) :: (.pointer (some ⟨b3, 2, none⟩)) :: (.int .u8 ((85 : Nat) : Int)) :: (.bool true) :: (.bool true) :: (.bool true) :: (.pointer (some ⟨b3, 3, none⟩)) :: (.int .u8 ((55 : Nat) : Int)) :: (.bool true) :: (.bool true) :: (.bool true) :: (.pointer (some ⟨b3, 31, none⟩)) :: (.int .u8 ((82 : Nat) : Int)) :: (.bool true) :: (.bool true) :: (.bool true) :: (.agg (vals .u8 32 m)) :: (.agg (vals .u8 32 m)) :: (.bool true) :: (.bool true) :: (.bool true) :: (.bool true) :: (.bool true) :: (.bool true) :: (.agg (vals .u8 32 z)) :: (.agg (vals .u8 32 (fun _ => 0))) :: (.bool true) :: (.bool true) :: (.bool true) :: (.bool false) :: (.bool true) :: (.bool true) :: (.bool true) :: (.agg (vals .u8 32 secB)) :: z67 :: z68 :: z69 :: z70 :: z71 :: z72 :: []), defers := [] }) (by kernel_rfl) (by kernel_rfl) ?_
  refine wpAnyH_take (i := 43) (oi := aw6Op43) (v := .agg (vals .u8 32 secB)) rfl (by kernel_rfl) (by kernel_rfl) (by kernel_rfl) (fun _ _ _ => hQ _ _ _ _ _) (yields_S (fun _ h => h.keep _ _ _ nb1 hb1) (by kernel_rfl) 22 _ rfl (by kernel_rfl) _ Try.underlying22 rfl (size_by _)) hS' ?_
  refine wpAnyH_take (i := 44) (oi := aw6Op44) (v := .agg (vals .u8 32 nineB)) rfl (by kernel_rfl) (by kernel_rfl) (by kernel_rfl) (fun _ _ _ => hQ _ _ _ _ _) (Or.inl ⟨by kernel_rfl, fun _ _ => by kernel_rfl⟩) hS' ?_
  exact wpAnyH_at (by kernel_rfl) (by kernel_rfl) (aw6_2 C u.drew hS' )
theorem xm_secz : xm secB (fun _ => 0) = 0 := xm_zero secB (fun _ => 0) (.inl (by decide +kernel))
set_option maxRecDepth 100000 in
set_option maxHeartbeats 2000000 in
theorem awake_c (w : World) : Ret 8 #[] w (.bool true) := by
  have hx := xm_aw
  have hne : decide (xm secB ptB ≠ 0) = true := by rw [hx]; exact decide_eq_true awR_ne
  have hno : decide (xm secB (fun _ => 0) ≠ 0) = false := by rw [xm_secz]; rfl
  have hz : sameB (byt (xm secB (fun _ => 0))) (fun _ => 0) = true := by rw [same_zero _ (xm_lt256 _ _), xm_secz]; rfl
  obtain ⟨m, hm⟩ : ∃ m, m = byt (xm secB ptB) := ⟨_, rfl⟩
  obtain ⟨v0, v1, v2, v3, v31⟩ := aw_bytes
  rw [← hx, ← hm] at v0 v1 v2 v3 v31
  clear hx
  go_enter Try.func8, Try.ntmps8
  go_upto_region 1 with (fail)
  refine aw1_region _ (fun _ _ _ _ _ h => h) w _ _ _ _ _ _ _ _ _ _ ?_
  intro n1 w1 hK1 gn1 B1
  have hL1 := hK1.below w _ (Nat.le_refl _) (Below.refl _ w)
  have s1 := hK1.size
  go_upto_region 2 with (fail)
  refine aw2_region _ (fun _ _ _ _ _ h => h) w1 _ _ _ _ _ _ _ _ _ _ _ ?_
  intro n2 w2 hK2 gn2 B2
  have C1 := hK2.keep _ _ _ (not_nil _) B1
  have hL2 := hK2.below w _ s1 hL1
  have s2 := Nat.le_trans s1 hK2.size
  go_upto_region 3 with (fail)
  refine aw3_region _ (fun _ _ _ _ _ h => h) w2 _ _ _ _ _ _ _ _ _ _ _ _ n1 n2 C1 (not_nil _) B2 (not_nil _) ?_
  rw [← hm]
  intro n3 w3 hK3 gn3 B3
  have D1 := hK3.keep _ _ _ (not_nil _) C1
  have D2 := hK3.keep _ _ _ (not_nil _) B2
  have hL3 := hK3.below w _ s2 hL2
  have s3 := Nat.le_trans s2 hK3.size
  go_upto_region 4 with (fail)
  refine aw4_region _ (fun _ _ _ _ _ h => h) w3 _ _ _ _ _ _ _ _ _ _ _ _ _ _ _ _ _ _ n1 n2 D1 (not_nil _) D2 (not_nil _) ?_
  rw [hne, ← hm]
  intro n4 w4 hK4 gn4 B4
  have E1 := hK4.keep _ _ _ (not_nil _) D1
  have E3 := hK4.keep _ _ _ (not_nil _) B3
  have hL4 := hK4.below w _ s3 hL3
  have s4 := Nat.le_trans s3 hK4.size
  go_upto_region 5 with (fail)
  refine aw5_region _ (fun _ _ _ _ _ h => h) w4 _ _ _ _ _ _ _ _ _ _ _ _ _ _ _ _ _ _ _ _ _ _ _ _ _ n1 E1 (not_nil _) ?_
  rw [hno]
  intro n6 w5 hK5 gn6 B6
  have F1 := hK5.keep _ _ _ (not_nil _) E1
  have F3 := hK5.keep _ _ _ (not_nil _) E3
  have F4 := hK5.keep _ _ _ (not_nil _) B4
  have hL5 := hK5.below w _ s4 hL4
  have s5 := Nat.le_trans s4 hK5.size
  go_upto_region 6 with (fail)
  refine aw6_region _ (fun _ _ _ _ _ h => h) w5 _ _ _ _ _ _ _ _ _ _ _ _ _ _ _ _ _ _ _ _ _ _ _ _ _ _ _ _ _ _ _ _ _ _ _ _ _ _ _ _ _ _ _ _ _ _ _ _ _ _ _ _ _ _ _ _ _ _ _ _ _ _ _ _ _ _ _ n1 n3 n4 n6 m (byt (xm secB (fun _ => 0))) v0 v1 v2 v3 v31 hz F1 (not_nil _) F3 (not_nil _) F4 (not_nil _) B6 (not_nil _) ?_
  intro w6 hK6
  have hL6 := hK6.below w _ s5 hL5
  go_wp2_with fail
  go_ret
  exact ⟨rfl, hL6⟩
end Go.Proofs.Ytidhffaphbiapaa

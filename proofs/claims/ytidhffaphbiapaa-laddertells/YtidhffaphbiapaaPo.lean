/- Walks: the regions of the reference's Mul, the first ones. -/
import Derived.Test.YtidhffaphbiapaaPj
namespace Go.Proofs.Ytidhffaphbiapaa
open F Go.RowKit

def rf0Op0 : Oper := { dst := some 2, op := Op.box 22 (Operand.tmp 0), type := 0, pos := "ref.go:7", after := #[], guard := none }
def rf0Op1 : Oper := { dst := some 3, op := Op.box 22 (Operand.tmp 1), type := 0, pos := "ref.go:7", after := #[], guard := none }
def rf0Op2 : Oper := { dst := some 4, op := Op.alloc 22, type := 0, pos := "ref.go:7", after := #[], guard := none }
def rf0Ops : Array Oper := #[rf0Op0, rf0Op1, rf0Op2]
set_option maxRecDepth 100000 in
set_option maxHeartbeats 2000000 in
theorem rf0_region (Q : Exit → Act → World → Prop) (hQ : ∀ c a w n v, Q (.panic c) (a.put (some n) v) w → Q (.panic c) a w) (u : World) (z2 z3 z4 : Value) (zz : List Value) (f g : Nat → Nat) (H : ∀ (n2 : Nat) (n3 : Nat) (n4 : Nat) (w : World), Kp [] u w → u.heap.size ≤ n2 → Blk w n2 (vals .u8 32 f) 22 → u.heap.size ≤ n3 → Blk w n3 (vals .u8 32 g) 22 → u.heap.size ≤ n4 → Blk w n4 (vals .u8 32 (fun _ => 0)) 22 → n2 ≠ n3 → n2 ≠ n4 → n3 ≠ n4 → Q .normal { tmps := List.toArray ((.agg (vals .u8 32 f)) :: (.agg (vals .u8 32 g)) :: (.pointer (some ⟨n2, 0, none⟩)) :: (.pointer (some ⟨n3, 0, none⟩)) :: (.pointer (some ⟨n4, 0, none⟩)) :: zz), defers := [] } w) :
    (Code.region 0 rf0Ops false).wp Try.prog Q { tmps := List.toArray ((.agg (vals .u8 32 f)) :: (.agg (vals .u8 32 g)) :: z2 :: z3 :: z4 :: zz), defers := [] } u := by
  have _ := hQ
  have _ := u
  have _ := z2
  have _ := z3
  have _ := z4
  have _ := zz
  have _ := f
  have _ := g
  refine wp_region_list (show wpList _ rf0Ops _ [rf0Op0, rf0Op1, rf0Op2] _ _ from ?_)
  have hS : Kp [] u u := Kp.refl _ u
  refine wpList_plain rfl (fun K hK => ?_)
  refine wp_new _ 22 (box_by _ _ _ _ f rfl (by kernel_rfl)) ?_
  intro n2 w0 eb Bn2 hbw
  have hS' := hS.call hbw
  refine hK _ _ ?_
  clear hK K
  have qgn2 : u.heap.size ≤ n2 := (by rw [eb]; exact hS.size)
  have qBn2 : Blk w0 n2 (vals .u8 32 f) 22 := Bn2
  clear hS
  have gn2 := qgn2
  have Bn2 := qBn2
  have hS := hS'
  clear hS' qgn2 qBn2
  refine wpList_fr (a' := { tmps := List.toArray ((.agg (vals .u8 32 f)) :: (.agg (vals .u8 32 g)) :: (.pointer (some ⟨n2, 0, none⟩)) :: z3 :: z4 :: zz), defers := [] }) (by kernel_rfl) ?_
  refine wpList_plain rfl (fun K hK => ?_)
  refine wp_new _ 22 (box_by _ _ _ _ g rfl (by kernel_rfl)) ?_
  intro n3 w1 eb Bn3 hbw
  have hS' := hS.call hbw
  refine hK _ _ ?_
  clear hK K
  have qgn2 : u.heap.size ≤ n2 := gn2
  have qBn2 : Blk w1 n2 (vals .u8 32 f) 22 := (Bn2.call hbw)
  have qgn3 : u.heap.size ≤ n3 := (by rw [eb]; exact hS.size)
  have qBn3 : Blk w1 n3 (vals .u8 32 g) 22 := Bn3
  have qen2n3 : n2 ≠ n3 := (by rw [eb]; exact Nat.ne_of_lt Bn2.lt)
  clear hS gn2 Bn2
  have gn2 := qgn2
  have Bn2 := qBn2
  have gn3 := qgn3
  have Bn3 := qBn3
  have en2n3 := qen2n3
  have hS := hS'
  clear hS' qgn2 qBn2 qgn3 qBn3 qen2n3
  refine wpList_fr (a' := { tmps := List.toArray ((.agg (vals .u8 32 f)) :: (.agg (vals .u8 32 g)) :: (.pointer (some ⟨n2, 0, none⟩)) :: (.pointer (some ⟨n3, 0, none⟩)) :: z4 :: zz), defers := [] }) (by kernel_rfl) ?_
  refine wpList_plain rfl (fun K hK => ?_)
  refine wp_new _ 22 (alloc_by _ _ _ rfl) ?_
  intro n4 w2 eb Bn4 hbw
  have hS' := hS.call hbw
  refine hK _ _ ?_
  clear hK K
  have qgn2 : u.heap.size ≤ n2 := gn2
  have qBn2 : Blk w2 n2 (vals .u8 32 f) 22 := (Bn2.call hbw)
  have qgn3 : u.heap.size ≤ n3 := gn3
  have qBn3 : Blk w2 n3 (vals .u8 32 g) 22 := (Bn3.call hbw)
  have qgn4 : u.heap.size ≤ n4 := (by rw [eb]; exact hS.size)
  have qBn4 : Blk w2 n4 (vals .u8 32 (fun _ => 0)) 22 := Bn4
  have qen2n3 : n2 ≠ n3 := en2n3
  have qen2n4 : n2 ≠ n4 := (by rw [eb]; exact Nat.ne_of_lt Bn2.lt)
  have qen3n4 : n3 ≠ n4 := (by rw [eb]; exact Nat.ne_of_lt Bn3.lt)
  clear hS gn2 Bn2 gn3 Bn3 en2n3
  have gn2 := qgn2
  have Bn2 := qBn2
  have gn3 := qgn3
  have Bn3 := qBn3
  have gn4 := qgn4
  have Bn4 := qBn4
  have en2n3 := qen2n3
  have en2n4 := qen2n4
  have en3n4 := qen3n4
  have hS := hS'
  clear hS' qgn2 qBn2 qgn3 qBn3 qgn4 qBn4 qen2n3 qen2n4 qen3n4
  refine wpList_fr (a' := { tmps := List.toArray ((.agg (vals .u8 32 f)) :: (.agg (vals .u8 32 g)) :: (.pointer (some ⟨n2, 0, none⟩)) :: (.pointer (some ⟨n3, 0, none⟩)) :: (.pointer (some ⟨n4, 0, none⟩)) :: zz), defers := [] }) (by kernel_rfl) ?_
  refine wpList_nil ?_
  exact H n2 n3 n4 w2 hS gn2 Bn2 gn3 Bn3 gn4 Bn4 en2n3 en2n4 en3n4
def rf1Op0 : Oper := { dst := some 21, op := Op.indexAddr 22 (Operand.tmp 2) (Operand.const (Value.int IntKind.i64 0)), type := 0, pos := "ref.go:8", after := #[], guard := none }
def rf1Op1 : Oper := { dst := some 22, op := Op.load 5 (Operand.tmp 21), type := 5, pos := "ref.go:8", after := #[{ on := 0, ground := Ground.data }], guard := none }
def rf1Op2 : Oper := { dst := some 23, op := Op.binOp BinOp.andNot 5 (Operand.tmp 22) (Operand.const (Value.int IntKind.u8 7)) 5, type := 5, pos := "ref.go:8", after := #[{ on := 1, ground := Ground.data }], guard := none }
def rf1Op3 : Oper := { dst := some 24, op := Op.indexAddr 22 (Operand.tmp 2) (Operand.const (Value.int IntKind.i64 0)), type := 0, pos := "ref.go:8", after := #[{ on := 0, ground := Ground.phase }, { on := 1, ground := Ground.phase }, { on := 2, ground := Ground.phase }], guard := none }
def rf1Op4 : Oper := { dst := none, op := Op.store 5 (Operand.tmp 24) (Operand.tmp 23), type := 0, pos := "ref.go:8", after := #[{ on := 3, ground := Ground.data }, { on := 2, ground := Ground.data }, { on := 0, ground := Ground.phase }, { on := 1, ground := Ground.phase }, { on := 2, ground := Ground.phase }], guard := none }
def rf1Ops : Array Oper := #[rf1Op0, rf1Op1, rf1Op2, rf1Op3, rf1Op4]
set_option maxRecDepth 100000 in
set_option maxHeartbeats 2000000 in
theorem rf1_region (Q : Exit → Act → World → Prop) (hQ : ∀ c a w n v, Q (.panic c) (a.put (some n) v) w → Q (.panic c) a w) (u : World) (z0 z1 z3 z4 z5 z6 z7 z8 z9 z10 z11 z12 z13 z14 z15 z16 z17 z18 z19 z20 z21 z22 z23 z24 : Value) (zz : List Value) (b2 : Nat) (f : Nat → Nat) (v : Nat) (hv : bits .andNot .u8 ((f 0 : Nat) : Int) 7 = ((v : Nat) : Int)) (hb2 : Blk u b2 (vals .u8 32 f) 22) (H : ∀ (w : World), Kp [b2] u w → Blk w b2 (vals .u8 32 (fun j => if j = 0 then v else f j)) 22 → Q .normal { tmps := List.toArray (z0 :: z1 :: (.pointer (some ⟨b2, 0, none⟩)) :: z3 :: z4 :: z5 :: z6 :: z7 :: z8 :: z9 :: z10 :: z11 :: z12 :: z13 :: z14 :: z15 :: z16 :: z17 :: z18 :: z19 :: z20 :: (.pointer (some ⟨b2, 0, none⟩)) :: (.int .u8 ((f 0 : Nat) : Int)) :: (.int .u8 ((v : Nat) : Int)) :: (.pointer (some ⟨b2, 0, none⟩)) :: zz), defers := [] } w) :
    (Code.region 1 rf1Ops false).wp Try.prog Q { tmps := List.toArray (z0 :: z1 :: (.pointer (some ⟨b2, 0, none⟩)) :: z3 :: z4 :: z5 :: z6 :: z7 :: z8 :: z9 :: z10 :: z11 :: z12 :: z13 :: z14 :: z15 :: z16 :: z17 :: z18 :: z19 :: z20 :: z21 :: z22 :: z23 :: z24 :: zz), defers := [] } u := by
  have _ := hQ
  have _ := u
  have _ := z0
  have _ := z1
  have _ := z3
  have _ := z4
  have _ := z5
  have _ := z6
  have _ := z7
  have _ := z8
  have _ := z9
  have _ := z10
  have _ := z11
  have _ := z12
  have _ := z13
  have _ := z14
  have _ := z15
  have _ := z16
  have _ := z17
  have _ := z18
  have _ := z19
  have _ := z20
  have _ := z21
  have _ := z22
  have _ := z23
  have _ := z24
  have _ := zz
  have _ := b2
  have _ := f
  have _ := v
  have _ := hv
  have _ := hb2
  refine wp_region_list (show wpList _ rf1Ops _ [rf1Op0, rf1Op1, rf1Op2, rf1Op3, rf1Op4] _ _ from ?_)
  have hS : Kp [b2] u u := Kp.refl _ u
  have Bb2 := hb2
  refine wpList_plain rfl (fun K hK => ?_)
  refine wp_val (.pointer (some ⟨b2, 0, none⟩)) (by kernel_rfl) ?_
  have hS' := hS
  refine hK _ _ ?_
  clear hK K
  have qBb2 : Blk u b2 (vals .u8 32 f) 22 := Bb2
  clear hS Bb2
  have Bb2 := qBb2
  have hS := hS'
  clear hS' qBb2
  refine wpList_fr (a' := { tmps := List.toArray (z0 :: z1 :: (.pointer (some ⟨b2, 0, none⟩)) :: z3 :: z4 :: z5 :: z6 :: z7 :: z8 :: z9 :: z10 :: z11 :: z12 :: z13 :: z14 :: z15 :: z16 :: z17 :: z18 :: z19 :: z20 :: (.pointer (some ⟨b2, 0, none⟩)) :: z22 :: z23 :: z24 :: zz), defers := [] }) (by kernel_rfl) ?_
  refine wpList_plain rfl (fun K hK => ?_)
  refine ld8 _ rfl b2 0 (by kernel_rfl) f Bb2 (by omega) ?_
  have hS' := hS
  refine hK _ _ ?_
  clear hK K
  have qBb2 : Blk u b2 (vals .u8 32 f) 22 := Bb2
  clear hS Bb2
  have Bb2 := qBb2
  have hS := hS'
  clear hS' qBb2
  refine wpList_fr (a' := { tmps := List.toArray (z0 :: z1 :: (.pointer (some ⟨b2, 0, none⟩)) :: z3 :: z4 :: z5 :: z6 :: z7 :: z8 :: z9 :: z10 :: z11 :: z12 :: z13 :: z14 :: z15 :: z16 :: z17 :: z18 :: z19 :: z20 :: (.pointer (some ⟨b2, 0, none⟩)) :: (.int .u8 ((f 0 : Nat) : Int)) :: z23 :: z24 :: zz), defers := [] }) (by kernel_rfl) ?_
  refine wpList_plain rfl (fun K hK => ?_)
  refine wp_val (.int .u8 ((v : Nat) : Int)) (by rw [← hv]; kernel_rfl) ?_
  have hS' := hS
  refine hK _ _ ?_
  clear hK K
  have qBb2 : Blk u b2 (vals .u8 32 f) 22 := Bb2
  clear hS Bb2
  have Bb2 := qBb2
  have hS := hS'
  clear hS' qBb2
  refine wpList_fr (a' := { tmps := List.toArray (z0 :: z1 :: (.pointer (some ⟨b2, 0, none⟩)) :: z3 :: z4 :: z5 :: z6 :: z7 :: z8 :: z9 :: z10 :: z11 :: z12 :: z13 :: z14 :: z15 :: z16 :: z17 :: z18 :: z19 :: z20 :: (.pointer (some ⟨b2, 0, none⟩)) :: (.int .u8 ((f 0 : Nat) : Int)) :: (.int .u8 ((v : Nat) : Int)) :: z24 :: zz), defers := [] }) (by kernel_rfl) ?_
  refine wpList_plain rfl (fun K hK => ?_)
  refine wp_val (.pointer (some ⟨b2, 0, none⟩)) (by kernel_rfl) ?_
  have hS' := hS
  refine hK _ _ ?_
  clear hK K
  have qBb2 : Blk u b2 (vals .u8 32 f) 22 := Bb2
  clear hS Bb2
  have Bb2 := qBb2
  have hS := hS'
  clear hS' qBb2
  refine wpList_fr (a' := { tmps := List.toArray (z0 :: z1 :: (.pointer (some ⟨b2, 0, none⟩)) :: z3 :: z4 :: z5 :: z6 :: z7 :: z8 :: z9 :: z10 :: z11 :: z12 :: z13 :: z14 :: z15 :: z16 :: z17 :: z18 :: z19 :: z20 :: (.pointer (some ⟨b2, 0, none⟩)) :: (.int .u8 ((f 0 : Nat) : Int)) :: (.int .u8 ((v : Nat) : Int)) :: (.pointer (some ⟨b2, 0, none⟩)) :: zz), defers := [] }) (by kernel_rfl) ?_
  refine wpList_plain rfl (fun K hK => ?_)
  refine st8 _ _ rfl b2 0 (by kernel_rfl) f (v) (by kernel_rfl) Bb2 (by omega) ?_
  intro w4 Bq hkw
  have hS' := hS.trans hkw (Z := [b2]) (fun _ h => h) (by simp)
  refine hK _ _ ?_
  clear hK K
  have qBb2 : Blk w4 b2 (vals .u8 32 (fun j => if j = 0 then v else f j)) 22 := Bq
  clear hS Bb2
  have Bb2 := qBb2
  have hS := hS'
  clear hS' qBb2
  refine wpList_fr (a' := { tmps := List.toArray (z0 :: z1 :: (.pointer (some ⟨b2, 0, none⟩)) :: z3 :: z4 :: z5 :: z6 :: z7 :: z8 :: z9 :: z10 :: z11 :: z12 :: z13 :: z14 :: z15 :: z16 :: z17 :: z18 :: z19 :: z20 :: (.pointer (some ⟨b2, 0, none⟩)) :: (.int .u8 ((f 0 : Nat) : Int)) :: (.int .u8 ((v : Nat) : Int)) :: (.pointer (some ⟨b2, 0, none⟩)) :: zz), defers := [] }) (by kernel_rfl) ?_
  refine wpList_nil ?_
  exact H  w4 hS Bb2
def rf2Op0 : Oper := { dst := some 25, op := Op.indexAddr 22 (Operand.tmp 2) (Operand.const (Value.int IntKind.i64 31)), type := 0, pos := "ref.go:9", after := #[], guard := none }
def rf2Op1 : Oper := { dst := some 26, op := Op.load 5 (Operand.tmp 25), type := 5, pos := "ref.go:9", after := #[{ on := 0, ground := Ground.data }], guard := none }
def rf2Op2 : Oper := { dst := some 27, op := Op.binOp BinOp.andNot 5 (Operand.tmp 26) (Operand.const (Value.int IntKind.u8 128)) 5, type := 5, pos := "ref.go:9", after := #[{ on := 1, ground := Ground.data }], guard := none }
def rf2Op3 : Oper := { dst := some 28, op := Op.binOp BinOp.or 5 (Operand.tmp 27) (Operand.const (Value.int IntKind.u8 64)) 5, type := 5, pos := "ref.go:9", after := #[{ on := 2, ground := Ground.data }], guard := none }
def rf2Op4 : Oper := { dst := some 29, op := Op.indexAddr 22 (Operand.tmp 2) (Operand.const (Value.int IntKind.i64 31)), type := 0, pos := "ref.go:9", after := #[{ on := 0, ground := Ground.phase }, { on := 1, ground := Ground.phase }, { on := 2, ground := Ground.phase }, { on := 3, ground := Ground.phase }], guard := none }
def rf2Op5 : Oper := { dst := none, op := Op.store 5 (Operand.tmp 29) (Operand.tmp 28), type := 0, pos := "ref.go:9", after := #[{ on := 4, ground := Ground.data }, { on := 3, ground := Ground.data }, { on := 0, ground := Ground.phase }, { on := 1, ground := Ground.phase }, { on := 2, ground := Ground.phase }, { on := 3, ground := Ground.phase }], guard := none }
def rf2Ops : Array Oper := #[rf2Op0, rf2Op1, rf2Op2, rf2Op3, rf2Op4, rf2Op5]
set_option maxRecDepth 100000 in
set_option maxHeartbeats 2000000 in
theorem rf2_region (Q : Exit → Act → World → Prop) (hQ : ∀ c a w n v, Q (.panic c) (a.put (some n) v) w → Q (.panic c) a w) (u : World) (z0 z1 z3 z4 z5 z6 z7 z8 z9 z10 z11 z12 z13 z14 z15 z16 z17 z18 z19 z20 z21 z22 z23 z24 z25 z26 z27 z28 z29 : Value) (zz : List Value) (b2 : Nat) (f : Nat → Nat) (m v : Nat) (hm : bits .andNot .u8 ((f 31 : Nat) : Int) 128 = ((m : Nat) : Int)) (hv : bits .or .u8 ((m : Nat) : Int) 64 = ((v : Nat) : Int)) (hb2 : Blk u b2 (vals .u8 32 f) 22) (H : ∀ (w : World), Kp [b2] u w → Blk w b2 (vals .u8 32 (fun j => if j = 31 then v else f j)) 22 → Q .normal { tmps := List.toArray (z0 :: z1 :: (.pointer (some ⟨b2, 0, none⟩)) :: z3 :: z4 :: z5 :: z6 :: z7 :: z8 :: z9 :: z10 :: z11 :: z12 :: z13 :: z14 :: z15 :: z16 :: z17 :: z18 :: z19 :: z20 :: z21 :: z22 :: z23 :: z24 :: (.pointer (some ⟨b2, 31, none⟩)) :: (.int .u8 ((f 31 : Nat) : Int)) :: (.int .u8 ((m : Nat) : Int)) :: (.int .u8 ((v : Nat) : Int)) :: (.pointer (some ⟨b2, 31, none⟩)) :: zz), defers := [] } w) :
    (Code.region 2 rf2Ops false).wp Try.prog Q { tmps := List.toArray (z0 :: z1 :: (.pointer (some ⟨b2, 0, none⟩)) :: z3 :: z4 :: z5 :: z6 :: z7 :: z8 :: z9 :: z10 :: z11 :: z12 :: z13 :: z14 :: z15 :: z16 :: z17 :: z18 :: z19 :: z20 :: z21 :: z22 :: z23 :: z24 :: z25 :: z26 :: z27 :: z28 :: z29 :: zz), defers := [] } u := by
  have _ := hQ
  have _ := u
  have _ := z0
  have _ := z1
  have _ := z3
  have _ := z4
  have _ := z5
  have _ := z6
  have _ := z7
  have _ := z8
  have _ := z9
  have _ := z10
  have _ := z11
  have _ := z12
  have _ := z13
  have _ := z14
  have _ := z15
  have _ := z16
  have _ := z17
  have _ := z18
  have _ := z19
  have _ := z20
  have _ := z21
  have _ := z22
  have _ := z23
  have _ := z24
  have _ := z25
  have _ := z26
  have _ := z27
  have _ := z28
  have _ := z29
  have _ := zz
  have _ := b2
  have _ := f
  have _ := m
  have _ := v
  have _ := hm
  have _ := hv
  have _ := hb2
  refine wp_region_list (show wpList _ rf2Ops _ [rf2Op0, rf2Op1, rf2Op2, rf2Op3, rf2Op4, rf2Op5] _ _ from ?_)
  have hS : Kp [b2] u u := Kp.refl _ u
  have Bb2 := hb2
  refine wpList_plain rfl (fun K hK => ?_)
  refine wp_val (.pointer (some ⟨b2, 31, none⟩)) (by kernel_rfl) ?_
  have hS' := hS
  refine hK _ _ ?_
  clear hK K
  have qBb2 : Blk u b2 (vals .u8 32 f) 22 := Bb2
  clear hS Bb2
  have Bb2 := qBb2
  have hS := hS'
  clear hS' qBb2
  refine wpList_fr (a' := { tmps := List.toArray (z0 :: z1 :: (.pointer (some ⟨b2, 0, none⟩)) :: z3 :: z4 :: z5 :: z6 :: z7 :: z8 :: z9 :: z10 :: z11 :: z12 :: z13 :: z14 :: z15 :: z16 :: z17 :: z18 :: z19 :: z20 :: z21 :: z22 :: z23 :: z24 :: (.pointer (some ⟨b2, 31, none⟩)) :: z26 :: z27 :: z28 :: z29 :: zz), defers := [] }) (by kernel_rfl) ?_
  refine wpList_plain rfl (fun K hK => ?_)
  refine ld8 _ rfl b2 31 (by kernel_rfl) f Bb2 (by omega) ?_
  have hS' := hS
  refine hK _ _ ?_
  clear hK K
  have qBb2 : Blk u b2 (vals .u8 32 f) 22 := Bb2
  clear hS Bb2
  have Bb2 := qBb2
  have hS := hS'
  clear hS' qBb2
  refine wpList_fr (a' := { tmps := List.toArray (z0 :: z1 :: (.pointer (some ⟨b2, 0, none⟩)) :: z3 :: z4 :: z5 :: z6 :: z7 :: z8 :: z9 :: z10 :: z11 :: z12 :: z13 :: z14 :: z15 :: z16 :: z17 :: z18 :: z19 :: z20 :: z21 :: z22 :: z23 :: z24 :: (.pointer (some ⟨b2, 31, none⟩)) :: (.int .u8 ((f 31 : Nat) : Int)) :: z27 :: z28 :: z29 :: zz), defers := [] }) (by kernel_rfl) ?_
  refine wpList_plain rfl (fun K hK => ?_)
  refine wp_val (.int .u8 ((m : Nat) : Int)) (by rw [← hm]; kernel_rfl) ?_
  have hS' := hS
  refine hK _ _ ?_
  clear hK K
  have qBb2 : Blk u b2 (vals .u8 32 f) 22 := Bb2
  clear hS Bb2
  have Bb2 := qBb2
  have hS := hS'
  clear hS' qBb2
  refine wpList_fr (a' := { tmps := List.toArray (z0 :: z1 :: (.pointer (some ⟨b2, 0, none⟩)) :: z3 :: z4 :: z5 :: z6 :: z7 :: z8 :: z9 :: z10 :: z11 :: z12 :: z13 :: z14 :: z15 :: z16 :: z17 :: z18 :: z19 :: z20 :: z21 :: z22 :: z23 :: z24 :: (.pointer (some ⟨b2, 31, none⟩)) :: (.int .u8 ((f 31 : Nat) : Int)) :: (.int .u8 ((m : Nat) : Int)) :: z28 :: z29 :: zz), defers := [] }) (by kernel_rfl) ?_
  refine wpList_plain rfl (fun K hK => ?_)
  refine wp_val (.int .u8 ((v : Nat) : Int)) (by rw [← hv]; kernel_rfl) ?_
  have hS' := hS
  refine hK _ _ ?_
  clear hK K
  have qBb2 : Blk u b2 (vals .u8 32 f) 22 := Bb2
  clear hS Bb2
  have Bb2 := qBb2
  have hS := hS'
  clear hS' qBb2
  refine wpList_fr (a' := { tmps := List.toArray (z0 :: z1 :: (.pointer (some ⟨b2, 0, none⟩)) :: z3 :: z4 :: z5 :: z6 :: z7 :: z8 :: z9 :: z10 :: z11 :: z12 :: z13 :: z14 :: z15 :: z16 :: z17 :: z18 :: z19 :: z20 :: z21 :: z22 :: z23 :: z24 :: (.pointer (some ⟨b2, 31, none⟩)) :: (.int .u8 ((f 31 : Nat) : Int)) :: (.int .u8 ((m : Nat) : Int)) :: (.int .u8 ((v : Nat) : Int)) :: z29 :: zz), defers := [] }) (by kernel_rfl) ?_
  refine wpList_plain rfl (fun K hK => ?_)
  refine wp_val (.pointer (some ⟨b2, 31, none⟩)) (by kernel_rfl) ?_
  have hS' := hS
  refine hK _ _ ?_
  clear hK K
  have qBb2 : Blk u b2 (vals .u8 32 f) 22 := Bb2
  clear hS Bb2
  have Bb2 := qBb2
  have hS := hS'
  clear hS' qBb2
  refine wpList_fr (a' := { tmps := List.toArray (z0 :: z1 :: (.pointer (some ⟨b2, 0, none⟩)) :: z3 :: z4 :: z5 :: z6 :: z7 :: z8 :: z9 :: z10 :: z11 :: z12 :: z13 :: z14 :: z15 :: z16 :: z17 :: z18 :: z19 :: z20 :: z21 :: z22 :: z23 :: z24 :: (.pointer (some ⟨b2, 31, none⟩)) :: (.int .u8 ((f 31 : Nat) : Int)) :: (.int .u8 ((m : Nat) : Int)) :: (.int .u8 ((v : Nat) : Int)) :: (.pointer (some ⟨b2, 31, none⟩)) :: zz), defers := [] }) (by kernel_rfl) ?_
  refine wpList_plain rfl (fun K hK => ?_)
  refine st8 _ _ rfl b2 31 (by kernel_rfl) f (v) (by kernel_rfl) Bb2 (by omega) ?_
  intro w5 Bq hkw
  have hS' := hS.trans hkw (Z := [b2]) (fun _ h => h) (by simp)
  refine hK _ _ ?_
  clear hK K
  have qBb2 : Blk w5 b2 (vals .u8 32 (fun j => if j = 31 then v else f j)) 22 := Bq
  clear hS Bb2
  have Bb2 := qBb2
  have hS := hS'
  clear hS' qBb2
  refine wpList_fr (a' := { tmps := List.toArray (z0 :: z1 :: (.pointer (some ⟨b2, 0, none⟩)) :: z3 :: z4 :: z5 :: z6 :: z7 :: z8 :: z9 :: z10 :: z11 :: z12 :: z13 :: z14 :: z15 :: z16 :: z17 :: z18 :: z19 :: z20 :: z21 :: z22 :: z23 :: z24 :: (.pointer (some ⟨b2, 31, none⟩)) :: (.int .u8 ((f 31 : Nat) : Int)) :: (.int .u8 ((m : Nat) : Int)) :: (.int .u8 ((v : Nat) : Int)) :: (.pointer (some ⟨b2, 31, none⟩)) :: zz), defers := [] }) (by kernel_rfl) ?_
  refine wpList_nil ?_
  exact H  w5 hS Bb2
def rf3Op0 : Oper := { dst := some 30, op := Op.indexAddr 22 (Operand.tmp 3) (Operand.const (Value.int IntKind.i64 31)), type := 0, pos := "ref.go:10", after := #[], guard := none }
def rf3Op1 : Oper := { dst := some 31, op := Op.load 5 (Operand.tmp 30), type := 5, pos := "ref.go:10", after := #[{ on := 0, ground := Ground.data }], guard := none }
def rf3Op2 : Oper := { dst := some 32, op := Op.binOp BinOp.andNot 5 (Operand.tmp 31) (Operand.const (Value.int IntKind.u8 128)) 5, type := 5, pos := "ref.go:10", after := #[{ on := 1, ground := Ground.data }], guard := none }
def rf3Op3 : Oper := { dst := some 33, op := Op.indexAddr 22 (Operand.tmp 3) (Operand.const (Value.int IntKind.i64 31)), type := 0, pos := "ref.go:10", after := #[{ on := 0, ground := Ground.phase }, { on := 1, ground := Ground.phase }, { on := 2, ground := Ground.phase }], guard := none }
def rf3Op4 : Oper := { dst := none, op := Op.store 5 (Operand.tmp 33) (Operand.tmp 32), type := 0, pos := "ref.go:10", after := #[{ on := 3, ground := Ground.data }, { on := 2, ground := Ground.data }, { on := 0, ground := Ground.phase }, { on := 1, ground := Ground.phase }, { on := 2, ground := Ground.phase }], guard := none }
def rf3Ops : Array Oper := #[rf3Op0, rf3Op1, rf3Op2, rf3Op3, rf3Op4]
set_option maxRecDepth 100000 in
set_option maxHeartbeats 2000000 in
theorem rf3_region (Q : Exit → Act → World → Prop) (hQ : ∀ c a w n v, Q (.panic c) (a.put (some n) v) w → Q (.panic c) a w) (u : World) (z0 z1 z2 z4 z5 z6 z7 z8 z9 z10 z11 z12 z13 z14 z15 z16 z17 z18 z19 z20 z21 z22 z23 z24 z25 z26 z27 z28 z29 z30 z31 z32 z33 : Value) (zz : List Value) (b3 : Nat) (f : Nat → Nat) (v : Nat) (hv : bits .andNot .u8 ((f 31 : Nat) : Int) 128 = ((v : Nat) : Int)) (hb3 : Blk u b3 (vals .u8 32 f) 22) (H : ∀ (w : World), Kp [b3] u w → Blk w b3 (vals .u8 32 (fun j => if j = 31 then v else f j)) 22 → Q .normal { tmps := List.toArray (z0 :: z1 :: z2 :: (.pointer (some ⟨b3, 0, none⟩)) :: z4 :: z5 :: z6 :: z7 :: z8 :: z9 :: z10 :: z11 :: z12 :: z13 :: z14 :: z15 :: z16 :: z17 :: z18 :: z19 :: z20 :: z21 :: z22 :: z23 :: z24 :: z25 :: z26 :: z27 :: z28 :: z29 :: (.pointer (some ⟨b3, 31, none⟩)) :: (.int .u8 ((f 31 : Nat) : Int)) :: (.int .u8 ((v : Nat) : Int)) :: (.pointer (some ⟨b3, 31, none⟩)) :: zz), defers := [] } w) :
    (Code.region 3 rf3Ops false).wp Try.prog Q { tmps := List.toArray (z0 :: z1 :: z2 :: (.pointer (some ⟨b3, 0, none⟩)) :: z4 :: z5 :: z6 :: z7 :: z8 :: z9 :: z10 :: z11 :: z12 :: z13 :: z14 :: z15 :: z16 :: z17 :: z18 :: z19 :: z20 :: z21 :: z22 :: z23 :: z24 :: z25 :: z26 :: z27 :: z28 :: z29 :: z30 :: z31 :: z32 :: z33 :: zz), defers := [] } u := by
  have _ := hQ
  have _ := u
  have _ := z0
  have _ := z1
  have _ := z2
  have _ := z4
  have _ := z5
  have _ := z6
  have _ := z7
  have _ := z8
  have _ := z9
  have _ := z10
  have _ := z11
  have _ := z12
  have _ := z13
  have _ := z14
  have _ := z15
  have _ := z16
  have _ := z17
  have _ := z18
  have _ := z19
  have _ := z20
  have _ := z21
  have _ := z22
  have _ := z23
  have _ := z24
  have _ := z25
  have _ := z26
  have _ := z27
  have _ := z28
  have _ := z29
  have _ := z30
  have _ := z31
  have _ := z32
  have _ := z33
  have _ := zz
  have _ := b3
  have _ := f
  have _ := v
  have _ := hv
  have _ := hb3
  refine wp_region_list (show wpList _ rf3Ops _ [rf3Op0, rf3Op1, rf3Op2, rf3Op3, rf3Op4] _ _ from ?_)
  have hS : Kp [b3] u u := Kp.refl _ u
  have Bb3 := hb3
  refine wpList_plain rfl (fun K hK => ?_)
  refine wp_val (.pointer (some ⟨b3, 31, none⟩)) (by kernel_rfl) ?_
  have hS' := hS
  refine hK _ _ ?_
  clear hK K
  have qBb3 : Blk u b3 (vals .u8 32 f) 22 := Bb3
  clear hS Bb3
  have Bb3 := qBb3
  have hS := hS'
  clear hS' qBb3
  refine wpList_fr (a' := { tmps := List.toArray (z0 :: z1 :: z2 :: (.pointer (some ⟨b3, 0, none⟩)) :: z4 :: z5 :: z6 :: z7 :: z8 :: z9 :: z10 :: z11 :: z12 :: z13 :: z14 :: z15 :: z16 :: z17 :: z18 :: z19 :: z20 :: z21 :: z22 :: z23 :: z24 :: z25 :: z26 :: z27 :: z28 :: z29 :: (.pointer (some ⟨b3, 31, none⟩)) :: z31 :: z32 :: z33 :: zz), defers := [] }) (by kernel_rfl) ?_
  refine wpList_plain rfl (fun K hK => ?_)
  refine ld8 _ rfl b3 31 (by kernel_rfl) f Bb3 (by omega) ?_
  have hS' := hS
  refine hK _ _ ?_
  clear hK K
  have qBb3 : Blk u b3 (vals .u8 32 f) 22 := Bb3
  clear hS Bb3
  have Bb3 := qBb3
  have hS := hS'
  clear hS' qBb3
  refine wpList_fr (a' := { tmps := List.toArray (z0 :: z1 :: z2 :: (.pointer (some ⟨b3, 0, none⟩)) :: z4 :: z5 :: z6 :: z7 :: z8 :: z9 :: z10 :: z11 :: z12 :: z13 :: z14 :: z15 :: z16 :: z17 :: z18 :: z19 :: z20 :: z21 :: z22 :: z23 :: z24 :: z25 :: z26 :: z27 :: z28 :: z29 :: (.pointer (some ⟨b3, 31, none⟩)) :: (.int .u8 ((f 31 : Nat) : Int)) :: z32 :: z33 :: zz), defers := [] }) (by kernel_rfl) ?_
  refine wpList_plain rfl (fun K hK => ?_)
  refine wp_val (.int .u8 ((v : Nat) : Int)) (by rw [← hv]; kernel_rfl) ?_
  have hS' := hS
  refine hK _ _ ?_
  clear hK K
  have qBb3 : Blk u b3 (vals .u8 32 f) 22 := Bb3
  clear hS Bb3
  have Bb3 := qBb3
  have hS := hS'
  clear hS' qBb3
  refine wpList_fr (a' := { tmps := List.toArray (z0 :: z1 :: z2 :: (.pointer (some ⟨b3, 0, none⟩)) :: z4 :: z5 :: z6 :: z7 :: z8 :: z9 :: z10 :: z11 :: z12 :: z13 :: z14 :: z15 :: z16 :: z17 :: z18 :: z19 :: z20 :: z21 :: z22 :: z23 :: z24 :: z25 :: z26 :: z27 :: z28 :: z29 :: (.pointer (some ⟨b3, 31, none⟩)) :: (.int .u8 ((f 31 : Nat) : Int)) :: (.int .u8 ((v : Nat) : Int)) :: z33 :: zz), defers := [] }) (by kernel_rfl) ?_
  refine wpList_plain rfl (fun K hK => ?_)
  refine wp_val (.pointer (some ⟨b3, 31, none⟩)) (by kernel_rfl) ?_
  have hS' := hS
  refine hK _ _ ?_
  clear hK K
  have qBb3 : Blk u b3 (vals .u8 32 f) 22 := Bb3
  clear hS Bb3
  have Bb3 := qBb3
  have hS := hS'
  clear hS' qBb3
  refine wpList_fr (a' := { tmps := List.toArray (z0 :: z1 :: z2 :: (.pointer (some ⟨b3, 0, none⟩)) :: z4 :: z5 :: z6 :: z7 :: z8 :: z9 :: z10 :: z11 :: z12 :: z13 :: z14 :: z15 :: z16 :: z17 :: z18 :: z19 :: z20 :: z21 :: z22 :: z23 :: z24 :: z25 :: z26 :: z27 :: z28 :: z29 :: (.pointer (some ⟨b3, 31, none⟩)) :: (.int .u8 ((f 31 : Nat) : Int)) :: (.int .u8 ((v : Nat) : Int)) :: (.pointer (some ⟨b3, 31, none⟩)) :: zz), defers := [] }) (by kernel_rfl) ?_
  refine wpList_plain rfl (fun K hK => ?_)
  refine st8 _ _ rfl b3 31 (by kernel_rfl) f (v) (by kernel_rfl) Bb3 (by omega) ?_
  intro w4 Bq hkw
  have hS' := hS.trans hkw (Z := [b3]) (fun _ h => h) (by simp)
  refine hK _ _ ?_
  clear hK K
  have qBb3 : Blk w4 b3 (vals .u8 32 (fun j => if j = 31 then v else f j)) 22 := Bq
  clear hS Bb3
  have Bb3 := qBb3
  have hS := hS'
  clear hS' qBb3
  refine wpList_fr (a' := { tmps := List.toArray (z0 :: z1 :: z2 :: (.pointer (some ⟨b3, 0, none⟩)) :: z4 :: z5 :: z6 :: z7 :: z8 :: z9 :: z10 :: z11 :: z12 :: z13 :: z14 :: z15 :: z16 :: z17 :: z18 :: z19 :: z20 :: z21 :: z22 :: z23 :: z24 :: z25 :: z26 :: z27 :: z28 :: z29 :: (.pointer (some ⟨b3, 31, none⟩)) :: (.int .u8 ((f 31 : Nat) : Int)) :: (.int .u8 ((v : Nat) : Int)) :: (.pointer (some ⟨b3, 31, none⟩)) :: zz), defers := [] }) (by kernel_rfl) ?_
  refine wpList_nil ?_
  exact H  w4 hS Bb3
def rf4Op0 : Oper := { dst := some 34, op := Op.load 22 (Operand.tmp 3), type := 22, pos := "ref.go:11", after := #[], guard := none }
def rf4Op1 : Oper := { dst := some 35, op := Op.call { callee := Callee.value (Operand.func 28), args := #[Operand.tmp 34], argTypes := #[22] }, type := 47, pos := "ref.go:11", after := #[{ on := 0, ground := Ground.data }], guard := none }
def rf4Op2 : Oper := { dst := some 5, op := Op.alloc 47, type := 0, pos := "ref.go:11", after := #[], guard := none }
def rf4Op3 : Oper := { dst := none, op := Op.store 47 (Operand.tmp 5) (Operand.tmp 35), type := 0, pos := "ref.go:11", after := #[{ on := 2, ground := Ground.data }, { on := 1, ground := Ground.data }, { on := 1, ground := Ground.chain }, { on := 0, ground := Ground.phase }, { on := 1, ground := Ground.phase }, { on := 2, ground := Ground.phase }], guard := none }
def rf4Ops : Array Oper := #[rf4Op0, rf4Op1, rf4Op2, rf4Op3]
set_option maxRecDepth 100000 in
set_option maxHeartbeats 2000000 in
theorem rf4_region (Q : Exit → Act → World → Prop) (hQ : ∀ c a w n v, Q (.panic c) (a.put (some n) v) w → Q (.panic c) a w) (u : World) (z0 z1 z2 z4 z5 z6 z7 z8 z9 z10 z11 z12 z13 z14 z15 z16 z17 z18 z19 z20 z21 z22 z23 z24 z25 z26 z27 z28 z29 z30 z31 z32 z33 z34 z35 : Value) (zz : List Value) (b3 : Nat) (g : Nat → Nat) (hg : ∀ i, g i < 256) (hb3 : Blk u b3 (vals .u8 32 g) 22) (nb3 : b3 ∉ ([] : List Nat)) (H : ∀ (n5 : Nat) (w : World), Kp [] u w → u.heap.size ≤ n5 → Blk w n5 (vals .u64 16 (F.dg (nb g 32 % pP))) 47 → Q .normal { tmps := List.toArray (z0 :: z1 :: z2 :: (.pointer (some ⟨b3, 0, none⟩)) :: z4 :: (.pointer (some ⟨n5, 0, none⟩)) :: z6 :: z7 :: z8 :: z9 :: z10 :: z11 :: z12 :: z13 :: z14 :: z15 :: z16 :: z17 :: z18 :: z19 :: z20 :: z21 :: z22 :: z23 :: z24 :: z25 :: z26 :: z27 :: z28 :: z29 :: z30 :: z31 :: z32 :: z33 :: (.agg (vals .u8 32 g)) :: (.agg (vals .u64 16 (F.dg (nb g 32 % pP)))) :: zz), defers := [] } w) :
    (Code.region 4 rf4Ops false).wp Try.prog Q { tmps := List.toArray (z0 :: z1 :: z2 :: (.pointer (some ⟨b3, 0, none⟩)) :: z4 :: z5 :: z6 :: z7 :: z8 :: z9 :: z10 :: z11 :: z12 :: z13 :: z14 :: z15 :: z16 :: z17 :: z18 :: z19 :: z20 :: z21 :: z22 :: z23 :: z24 :: z25 :: z26 :: z27 :: z28 :: z29 :: z30 :: z31 :: z32 :: z33 :: z34 :: z35 :: zz), defers := [] } u := by
  have _ := hQ
  have _ := u
  have _ := z0
  have _ := z1
  have _ := z2
  have _ := z4
  have _ := z5
  have _ := z6
  have _ := z7
  have _ := z8
  have _ := z9
  have _ := z10
  have _ := z11
  have _ := z12
  have _ := z13
  have _ := z14
  have _ := z15
  have _ := z16
  have _ := z17
  have _ := z18
  have _ := z19
  have _ := z20
  have _ := z21
  have _ := z22
  have _ := z23
  have _ := z24
  have _ := z25
  have _ := z26
  have _ := z27
  have _ := z28
  have _ := z29
  have _ := z30
  have _ := z31
  have _ := z32
  have _ := z33
  have _ := z34
  have _ := z35
  have _ := zz
  have _ := b3
  have _ := g
  have _ := hg
  have _ := hb3
  have _ := nb3
  refine wp_region_list (show wpList _ rf4Ops _ [rf4Op0, rf4Op1, rf4Op2, rf4Op3] _ _ from ?_)
  have hS : Kp [] u u := Kp.refl _ u
  refine wpList_plain rfl (fun K hK => ?_)
  refine wp_load_row 22 _ rfl b3 (by kernel_rfl) 22 _ (0, 0) _ (hS.keep _ _ _ nb3 hb3) Try.underlying22 rfl (size_by _) ?_
  have hS' := hS
  refine hK _ _ ?_
  clear hK K
  clear hS
  have hS := hS'
  clear hS'
  refine wpList_fr (a' := { tmps := List.toArray (z0 :: z1 :: z2 :: (.pointer (some ⟨b3, 0, none⟩)) :: z4 :: z5 :: z6 :: z7 :: z8 :: z9 :: z10 :: z11 :: z12 :: z13 :: z14 :: z15 :: z16 :: z17 :: z18 :: z19 :: z20 :: z21 :: z22 :: z23 :: z24 :: z25 :: z26 :: z27 :: z28 :: z29 :: z30 :: z31 :: z32 :: z33 :: (.agg (vals .u8 32 g)) :: z35 :: zz), defers := [] }) (by kernel_rfl) ?_
  refine wpList_plain rfl (fun K hK => ?_)
  refine wp_call_val 28 #[.agg (vals .u8 32 g)] (by kernel_rfl) (.agg (vals .u64 16 (F.dg (nb g 32 % pP)))) (rload_c g _ hg) ?_
  intro w1 hbw
  have hS' := hS.call hbw
  refine hK _ _ ?_
  clear hK K
  clear hS
  have hS := hS'
  clear hS'
  refine wpList_fr (a' := { tmps := List.toArray (z0 :: z1 :: z2 :: (.pointer (some ⟨b3, 0, none⟩)) :: z4 :: z5 :: z6 :: z7 :: z8 :: z9 :: z10 :: z11 :: z12 :: z13 :: z14 :: z15 :: z16 :: z17 :: z18 :: z19 :: z20 :: z21 :: z22 :: z23 :: z24 :: z25 :: z26 :: z27 :: z28 :: z29 :: z30 :: z31 :: z32 :: z33 :: (.agg (vals .u8 32 g)) :: (.agg (vals .u64 16 (F.dg (nb g 32 % pP)))) :: zz), defers := [] }) (by kernel_rfl) ?_
  refine wpList_plain rfl (fun K hK => ?_)
  refine wp_new _ 47 (alloc_rn _ _ _ rfl) ?_
  intro n5 w2 eb Bn5 hbw
  have hS' := hS.call hbw
  refine hK _ _ ?_
  clear hK K
  have qgn5 : u.heap.size ≤ n5 := (by rw [eb]; exact hS.size)
  have qBn5 : Blk w2 n5 (vals .u64 16 (fun _ => 0)) 47 := Bn5
  clear hS
  have gn5 := qgn5
  have Bn5 := qBn5
  have hS := hS'
  clear hS' qgn5 qBn5
  refine wpList_fr (a' := { tmps := List.toArray (z0 :: z1 :: z2 :: (.pointer (some ⟨b3, 0, none⟩)) :: z4 :: (.pointer (some ⟨n5, 0, none⟩)) :: z6 :: z7 :: z8 :: z9 :: z10 :: z11 :: z12 :: z13 :: z14 :: z15 :: z16 :: z17 :: z18 :: z19 :: z20 :: z21 :: z22 :: z23 :: z24 :: z25 :: z26 :: z27 :: z28 :: z29 :: z30 :: z31 :: z32 :: z33 :: (.agg (vals .u8 32 g)) :: (.agg (vals .u64 16 (F.dg (nb g 32 % pP)))) :: zz), defers := [] }) (by kernel_rfl) ?_
  refine wpList_plain rfl (fun K hK => ?_)
  refine wp_store_row 47 _ _ rfl n5 (vals .u64 16 (F.dg (nb g 32 % pP))) (by kernel_rfl) (by kernel_rfl) 47 _ Bn5 (size_rn _) (by simp only [vals_size]) (vals_one _ _ _) ?_
  have hS' := hS.new gn5 (vals .u64 16 (F.dg (nb g 32 % pP)))
  refine hK _ _ ?_
  clear hK K
  have qgn5 : u.heap.size ≤ n5 := gn5
  have qBn5 : Blk (w2.setRow n5 (vals .u64 16 (F.dg (nb g 32 % pP)))) n5 (vals .u64 16 (F.dg (nb g 32 % pP))) 47 := (Bn5.row (vals .u64 16 (F.dg (nb g 32 % pP))))
  clear hS gn5 Bn5
  have gn5 := qgn5
  have Bn5 := qBn5
  have hS := hS'
  clear hS' qgn5 qBn5
  refine wpList_fr (a' := { tmps := List.toArray (z0 :: z1 :: z2 :: (.pointer (some ⟨b3, 0, none⟩)) :: z4 :: (.pointer (some ⟨n5, 0, none⟩)) :: z6 :: z7 :: z8 :: z9 :: z10 :: z11 :: z12 :: z13 :: z14 :: z15 :: z16 :: z17 :: z18 :: z19 :: z20 :: z21 :: z22 :: z23 :: z24 :: z25 :: z26 :: z27 :: z28 :: z29 :: z30 :: z31 :: z32 :: z33 :: (.agg (vals .u8 32 g)) :: (.agg (vals .u64 16 (F.dg (nb g 32 % pP)))) :: zz), defers := [] }) (by kernel_rfl) ?_
  generalize (w2.setRow n5 (vals .u64 16 (F.dg (nb g 32 % pP)))) = w3 at *
  refine wpList_nil ?_
  exact H n5 w3 hS gn5 Bn5
def rf5Op0 : Oper := { dst := some 36, op := Op.call { callee := Callee.value (Operand.func 29), args := #[Operand.const (Value.int IntKind.u64 1)], argTypes := #[29] }, type := 47, pos := "ref.go:12", after := #[], guard := none }
def rf5Op1 : Oper := { dst := some 6, op := Op.alloc 47, type := 0, pos := "ref.go:12", after := #[], guard := none }
def rf5Op2 : Oper := { dst := none, op := Op.store 47 (Operand.tmp 6) (Operand.tmp 36), type := 0, pos := "ref.go:12", after := #[{ on := 1, ground := Ground.data }, { on := 0, ground := Ground.data }, { on := 0, ground := Ground.chain }, { on := 0, ground := Ground.phase }, { on := 1, ground := Ground.phase }], guard := none }
def rf5Ops : Array Oper := #[rf5Op0, rf5Op1, rf5Op2]
set_option maxRecDepth 100000 in
set_option maxHeartbeats 2000000 in
theorem rf5_region (Q : Exit → Act → World → Prop) (hQ : ∀ c a w n v, Q (.panic c) (a.put (some n) v) w → Q (.panic c) a w) (u : World) (z0 z1 z2 z3 z4 z5 z6 z7 z8 z9 z10 z11 z12 z13 z14 z15 z16 z17 z18 z19 z20 z21 z22 z23 z24 z25 z26 z27 z28 z29 z30 z31 z32 z33 z34 z35 z36 : Value) (zz : List Value) (H : ∀ (n6 : Nat) (w : World), Kp [] u w → u.heap.size ≤ n6 → Blk w n6 (vals .u64 16 (F.dg 1)) 47 → Q .normal { tmps := List.toArray (z0 :: z1 :: z2 :: z3 :: z4 :: z5 :: (.pointer (some ⟨n6, 0, none⟩)) :: z7 :: z8 :: z9 :: z10 :: z11 :: z12 :: z13 :: z14 :: z15 :: z16 :: z17 :: z18 :: z19 :: z20 :: z21 :: z22 :: z23 :: z24 :: z25 :: z26 :: z27 :: z28 :: z29 :: z30 :: z31 :: z32 :: z33 :: z34 :: z35 :: (.agg (vals .u64 16 (F.dg 1))) :: zz), defers := [] } w) :
    (Code.region 5 rf5Ops false).wp Try.prog Q { tmps := List.toArray (z0 :: z1 :: z2 :: z3 :: z4 :: z5 :: z6 :: z7 :: z8 :: z9 :: z10 :: z11 :: z12 :: z13 :: z14 :: z15 :: z16 :: z17 :: z18 :: z19 :: z20 :: z21 :: z22 :: z23 :: z24 :: z25 :: z26 :: z27 :: z28 :: z29 :: z30 :: z31 :: z32 :: z33 :: z34 :: z35 :: z36 :: zz), defers := [] } u := by
  have _ := hQ
  have _ := u
  have _ := z0
  have _ := z1
  have _ := z2
  have _ := z3
  have _ := z4
  have _ := z5
  have _ := z6
  have _ := z7
  have _ := z8
  have _ := z9
  have _ := z10
  have _ := z11
  have _ := z12
  have _ := z13
  have _ := z14
  have _ := z15
  have _ := z16
  have _ := z17
  have _ := z18
  have _ := z19
  have _ := z20
  have _ := z21
  have _ := z22
  have _ := z23
  have _ := z24
  have _ := z25
  have _ := z26
  have _ := z27
  have _ := z28
  have _ := z29
  have _ := z30
  have _ := z31
  have _ := z32
  have _ := z33
  have _ := z34
  have _ := z35
  have _ := z36
  have _ := zz
  refine wp_region_list (show wpList _ rf5Ops _ [rf5Op0, rf5Op1, rf5Op2] _ _ from ?_)
  have hS : Kp [] u u := Kp.refl _ u
  refine wpList_plain rfl (fun K hK => ?_)
  refine wp_call_val 29 #[.int IntKind.u64 1] (by kernel_rfl) (.agg (vals .u64 16 (F.dg 1))) (rof1_c _) ?_
  intro w0 hbw
  have hS' := hS.call hbw
  refine hK _ _ ?_
  clear hK K
  clear hS
  have hS := hS'
  clear hS'
  refine wpList_fr (a' := { tmps := List.toArray (z0 :: z1 :: z2 :: z3 :: z4 :: z5 :: z6 :: z7 :: z8 :: z9 :: z10 :: z11 :: z12 :: z13 :: z14 :: z15 :: z16 :: z17 :: z18 :: z19 :: z20 :: z21 :: z22 :: z23 :: z24 :: z25 :: z26 :: z27 :: z28 :: z29 :: z30 :: z31 :: z32 :: z33 :: z34 :: z35 :: (.agg (vals .u64 16 (F.dg 1))) :: zz), defers := [] }) (by kernel_rfl) ?_
  refine wpList_plain rfl (fun K hK => ?_)
  refine wp_new _ 47 (alloc_rn _ _ _ rfl) ?_
  intro n6 w1 eb Bn6 hbw
  have hS' := hS.call hbw
  refine hK _ _ ?_
  clear hK K
  have qgn6 : u.heap.size ≤ n6 := (by rw [eb]; exact hS.size)
  have qBn6 : Blk w1 n6 (vals .u64 16 (fun _ => 0)) 47 := Bn6
  clear hS
  have gn6 := qgn6
  have Bn6 := qBn6
  have hS := hS'
  clear hS' qgn6 qBn6
  refine wpList_fr (a' := { tmps := List.toArray (z0 :: z1 :: z2 :: z3 :: z4 :: z5 :: (.pointer (some ⟨n6, 0, none⟩)) :: z7 :: z8 :: z9 :: z10 :: z11 :: z12 :: z13 :: z14 :: z15 :: z16 :: z17 :: z18 :: z19 :: z20 :: z21 :: z22 :: z23 :: z24 :: z25 :: z26 :: z27 :: z28 :: z29 :: z30 :: z31 :: z32 :: z33 :: z34 :: z35 :: (.agg (vals .u64 16 (F.dg 1))) :: zz), defers := [] }) (by kernel_rfl) ?_
  refine wpList_plain rfl (fun K hK => ?_)
  refine wp_store_row 47 _ _ rfl n6 (vals .u64 16 (F.dg 1)) (by kernel_rfl) (by kernel_rfl) 47 _ Bn6 (size_rn _) (by simp only [vals_size]) (vals_one _ _ _) ?_
  have hS' := hS.new gn6 (vals .u64 16 (F.dg 1))
  refine hK _ _ ?_
  clear hK K
  have qgn6 : u.heap.size ≤ n6 := gn6
  have qBn6 : Blk (w1.setRow n6 (vals .u64 16 (F.dg 1))) n6 (vals .u64 16 (F.dg 1)) 47 := (Bn6.row (vals .u64 16 (F.dg 1)))
  clear hS gn6 Bn6
  have gn6 := qgn6
  have Bn6 := qBn6
  have hS := hS'
  clear hS' qgn6 qBn6
  refine wpList_fr (a' := { tmps := List.toArray (z0 :: z1 :: z2 :: z3 :: z4 :: z5 :: (.pointer (some ⟨n6, 0, none⟩)) :: z7 :: z8 :: z9 :: z10 :: z11 :: z12 :: z13 :: z14 :: z15 :: z16 :: z17 :: z18 :: z19 :: z20 :: z21 :: z22 :: z23 :: z24 :: z25 :: z26 :: z27 :: z28 :: z29 :: z30 :: z31 :: z32 :: z33 :: z34 :: z35 :: (.agg (vals .u64 16 (F.dg 1))) :: zz), defers := [] }) (by kernel_rfl) ?_
  generalize (w1.setRow n6 (vals .u64 16 (F.dg 1))) = w2 at *
  refine wpList_nil ?_
  exact H n6 w2 hS gn6 Bn6
def rf6Op0 : Oper := { dst := some 37, op := Op.call { callee := Callee.value (Operand.func 29), args := #[Operand.const (Value.int IntKind.u64 0)], argTypes := #[29] }, type := 47, pos := "ref.go:13", after := #[], guard := none }
def rf6Op1 : Oper := { dst := some 7, op := Op.alloc 47, type := 0, pos := "ref.go:13", after := #[], guard := none }
def rf6Op2 : Oper := { dst := none, op := Op.store 47 (Operand.tmp 7) (Operand.tmp 37), type := 0, pos := "ref.go:13", after := #[{ on := 1, ground := Ground.data }, { on := 0, ground := Ground.data }, { on := 0, ground := Ground.chain }, { on := 0, ground := Ground.phase }, { on := 1, ground := Ground.phase }], guard := none }
def rf6Ops : Array Oper := #[rf6Op0, rf6Op1, rf6Op2]
set_option maxRecDepth 100000 in
set_option maxHeartbeats 2000000 in
theorem rf6_region (Q : Exit → Act → World → Prop) (hQ : ∀ c a w n v, Q (.panic c) (a.put (some n) v) w → Q (.panic c) a w) (u : World) (z0 z1 z2 z3 z4 z5 z6 z7 z8 z9 z10 z11 z12 z13 z14 z15 z16 z17 z18 z19 z20 z21 z22 z23 z24 z25 z26 z27 z28 z29 z30 z31 z32 z33 z34 z35 z36 z37 : Value) (zz : List Value) (H : ∀ (n7 : Nat) (w : World), Kp [] u w → u.heap.size ≤ n7 → Blk w n7 (vals .u64 16 (F.dg 0)) 47 → Q .normal { tmps := List.toArray (z0 :: z1 :: z2 :: z3 :: z4 :: z5 :: z6 :: (.pointer (some ⟨n7, 0, none⟩)) :: z8 :: z9 :: z10 :: z11 :: z12 :: z13 :: z14 :: z15 :: z16 :: z17 :: z18 :: z19 :: z20 :: z21 :: z22 :: z23 :: z24 :: z25 :: z26 :: z27 :: z28 :: z29 :: z30 :: z31 :: z32 :: z33 :: z34 :: z35 :: z36 :: (.agg (vals .u64 16 (F.dg 0))) :: zz), defers := [] } w) :
    (Code.region 6 rf6Ops false).wp Try.prog Q { tmps := List.toArray (z0 :: z1 :: z2 :: z3 :: z4 :: z5 :: z6 :: z7 :: z8 :: z9 :: z10 :: z11 :: z12 :: z13 :: z14 :: z15 :: z16 :: z17 :: z18 :: z19 :: z20 :: z21 :: z22 :: z23 :: z24 :: z25 :: z26 :: z27 :: z28 :: z29 :: z30 :: z31 :: z32 :: z33 :: z34 :: z35 :: z36 :: z37 :: zz), defers := [] } u := by
  have _ := hQ
  have _ := u
  have _ := z0
  have _ := z1
  have _ := z2
  have _ := z3
  have _ := z4
  have _ := z5
  have _ := z6
  have _ := z7
  have _ := z8
  have _ := z9
  have _ := z10
  have _ := z11
  have _ := z12
  have _ := z13
  have _ := z14
  have _ := z15
  have _ := z16
  have _ := z17
  have _ := z18
  have _ := z19
  have _ := z20
  have _ := z21
  have _ := z22
  have _ := z23
  have _ := z24
  have _ := z25
  have _ := z26
  have _ := z27
  have _ := z28
  have _ := z29
  have _ := z30
  have _ := z31
  have _ := z32
  have _ := z33
  have _ := z34
  have _ := z35
  have _ := z36
  have _ := z37
  have _ := zz
  refine wp_region_list (show wpList _ rf6Ops _ [rf6Op0, rf6Op1, rf6Op2] _ _ from ?_)
  have hS : Kp [] u u := Kp.refl _ u
  refine wpList_plain rfl (fun K hK => ?_)
  refine wp_call_val 29 #[.int IntKind.u64 0] (by kernel_rfl) (.agg (vals .u64 16 (F.dg 0))) (rof0_c _) ?_
  intro w0 hbw
  have hS' := hS.call hbw
  refine hK _ _ ?_
  clear hK K
  clear hS
  have hS := hS'
  clear hS'
  refine wpList_fr (a' := { tmps := List.toArray (z0 :: z1 :: z2 :: z3 :: z4 :: z5 :: z6 :: z7 :: z8 :: z9 :: z10 :: z11 :: z12 :: z13 :: z14 :: z15 :: z16 :: z17 :: z18 :: z19 :: z20 :: z21 :: z22 :: z23 :: z24 :: z25 :: z26 :: z27 :: z28 :: z29 :: z30 :: z31 :: z32 :: z33 :: z34 :: z35 :: z36 :: (.agg (vals .u64 16 (F.dg 0))) :: zz), defers := [] }) (by kernel_rfl) ?_
  refine wpList_plain rfl (fun K hK => ?_)
  refine wp_new _ 47 (alloc_rn _ _ _ rfl) ?_
  intro n7 w1 eb Bn7 hbw
  have hS' := hS.call hbw
  refine hK _ _ ?_
  clear hK K
  have qgn7 : u.heap.size ≤ n7 := (by rw [eb]; exact hS.size)
  have qBn7 : Blk w1 n7 (vals .u64 16 (fun _ => 0)) 47 := Bn7
  clear hS
  have gn7 := qgn7
  have Bn7 := qBn7
  have hS := hS'
  clear hS' qgn7 qBn7
  refine wpList_fr (a' := { tmps := List.toArray (z0 :: z1 :: z2 :: z3 :: z4 :: z5 :: z6 :: (.pointer (some ⟨n7, 0, none⟩)) :: z8 :: z9 :: z10 :: z11 :: z12 :: z13 :: z14 :: z15 :: z16 :: z17 :: z18 :: z19 :: z20 :: z21 :: z22 :: z23 :: z24 :: z25 :: z26 :: z27 :: z28 :: z29 :: z30 :: z31 :: z32 :: z33 :: z34 :: z35 :: z36 :: (.agg (vals .u64 16 (F.dg 0))) :: zz), defers := [] }) (by kernel_rfl) ?_
  refine wpList_plain rfl (fun K hK => ?_)
  refine wp_store_row 47 _ _ rfl n7 (vals .u64 16 (F.dg 0)) (by kernel_rfl) (by kernel_rfl) 47 _ Bn7 (size_rn _) (by simp only [vals_size]) (vals_one _ _ _) ?_
  have hS' := hS.new gn7 (vals .u64 16 (F.dg 0))
  refine hK _ _ ?_
  clear hK K
  have qgn7 : u.heap.size ≤ n7 := gn7
  have qBn7 : Blk (w1.setRow n7 (vals .u64 16 (F.dg 0))) n7 (vals .u64 16 (F.dg 0)) 47 := (Bn7.row (vals .u64 16 (F.dg 0)))
  clear hS gn7 Bn7
  have gn7 := qgn7
  have Bn7 := qBn7
  have hS := hS'
  clear hS' qgn7 qBn7
  refine wpList_fr (a' := { tmps := List.toArray (z0 :: z1 :: z2 :: z3 :: z4 :: z5 :: z6 :: (.pointer (some ⟨n7, 0, none⟩)) :: z8 :: z9 :: z10 :: z11 :: z12 :: z13 :: z14 :: z15 :: z16 :: z17 :: z18 :: z19 :: z20 :: z21 :: z22 :: z23 :: z24 :: z25 :: z26 :: z27 :: z28 :: z29 :: z30 :: z31 :: z32 :: z33 :: z34 :: z35 :: z36 :: (.agg (vals .u64 16 (F.dg 0))) :: zz), defers := [] }) (by kernel_rfl) ?_
  generalize (w1.setRow n7 (vals .u64 16 (F.dg 0))) = w2 at *
  refine wpList_nil ?_
  exact H n7 w2 hS gn7 Bn7
def rf7Op0 : Oper := { dst := some 38, op := Op.load 47 (Operand.tmp 5), type := 47, pos := "ref.go:14", after := #[], guard := none }
def rf7Op1 : Oper := { dst := some 8, op := Op.alloc 47, type := 0, pos := "ref.go:14", after := #[], guard := none }
def rf7Op2 : Oper := { dst := none, op := Op.store 47 (Operand.tmp 8) (Operand.tmp 38), type := 0, pos := "ref.go:14", after := #[{ on := 1, ground := Ground.data }, { on := 0, ground := Ground.data }, { on := 0, ground := Ground.phase }, { on := 1, ground := Ground.phase }], guard := none }
def rf7Ops : Array Oper := #[rf7Op0, rf7Op1, rf7Op2]
set_option maxRecDepth 100000 in
set_option maxHeartbeats 2000000 in
theorem rf7_region (Q : Exit → Act → World → Prop) (hQ : ∀ c a w n v, Q (.panic c) (a.put (some n) v) w → Q (.panic c) a w) (u : World) (z0 z1 z2 z3 z4 z6 z7 z8 z9 z10 z11 z12 z13 z14 z15 z16 z17 z18 z19 z20 z21 z22 z23 z24 z25 z26 z27 z28 z29 z30 z31 z32 z33 z34 z35 z36 z37 z38 : Value) (zz : List Value) (b5 : Nat) (u0 : Nat) (hb5 : Blk u b5 (vals .u64 16 (F.dg u0)) 47) (nb5 : b5 ∉ ([] : List Nat)) (H : ∀ (n8 : Nat) (w : World), Kp [] u w → u.heap.size ≤ n8 → Blk w n8 (vals .u64 16 (F.dg u0)) 47 → Q .normal { tmps := List.toArray (z0 :: z1 :: z2 :: z3 :: z4 :: (.pointer (some ⟨b5, 0, none⟩)) :: z6 :: z7 :: (.pointer (some ⟨n8, 0, none⟩)) :: z9 :: z10 :: z11 :: z12 :: z13 :: z14 :: z15 :: z16 :: z17 :: z18 :: z19 :: z20 :: z21 :: z22 :: z23 :: z24 :: z25 :: z26 :: z27 :: z28 :: z29 :: z30 :: z31 :: z32 :: z33 :: z34 :: z35 :: z36 :: z37 :: (.agg (vals .u64 16 (F.dg u0))) :: zz), defers := [] } w) :
    (Code.region 7 rf7Ops false).wp Try.prog Q { tmps := List.toArray (z0 :: z1 :: z2 :: z3 :: z4 :: (.pointer (some ⟨b5, 0, none⟩)) :: z6 :: z7 :: z8 :: z9 :: z10 :: z11 :: z12 :: z13 :: z14 :: z15 :: z16 :: z17 :: z18 :: z19 :: z20 :: z21 :: z22 :: z23 :: z24 :: z25 :: z26 :: z27 :: z28 :: z29 :: z30 :: z31 :: z32 :: z33 :: z34 :: z35 :: z36 :: z37 :: z38 :: zz), defers := [] } u := by
  have _ := hQ
  have _ := u
  have _ := z0
  have _ := z1
  have _ := z2
  have _ := z3
  have _ := z4
  have _ := z6
  have _ := z7
  have _ := z8
  have _ := z9
  have _ := z10
  have _ := z11
  have _ := z12
  have _ := z13
  have _ := z14
  have _ := z15
  have _ := z16
  have _ := z17
  have _ := z18
  have _ := z19
  have _ := z20
  have _ := z21
  have _ := z22
  have _ := z23
  have _ := z24
  have _ := z25
  have _ := z26
  have _ := z27
  have _ := z28
  have _ := z29
  have _ := z30
  have _ := z31
  have _ := z32
  have _ := z33
  have _ := z34
  have _ := z35
  have _ := z36
  have _ := z37
  have _ := z38
  have _ := zz
  have _ := b5
  have _ := u0
  have _ := hb5
  have _ := nb5
  refine wp_region_list (show wpList _ rf7Ops _ [rf7Op0, rf7Op1, rf7Op2] _ _ from ?_)
  have hS : Kp [] u u := Kp.refl _ u
  refine wpList_plain rfl (fun K hK => ?_)
  refine wp_load_row 47 _ rfl b5 (by kernel_rfl) 47 _ (0, 0) _ (hS.keep _ _ _ nb5 hb5) Try.underlying47 rfl (size_rn _) ?_
  have hS' := hS
  refine hK _ _ ?_
  clear hK K
  clear hS
  have hS := hS'
  clear hS'
  refine wpList_fr (a' := { tmps := List.toArray (z0 :: z1 :: z2 :: z3 :: z4 :: (.pointer (some ⟨b5, 0, none⟩)) :: z6 :: z7 :: z8 :: z9 :: z10 :: z11 :: z12 :: z13 :: z14 :: z15 :: z16 :: z17 :: z18 :: z19 :: z20 :: z21 :: z22 :: z23 :: z24 :: z25 :: z26 :: z27 :: z28 :: z29 :: z30 :: z31 :: z32 :: z33 :: z34 :: z35 :: z36 :: z37 :: (.agg (vals .u64 16 (F.dg u0))) :: zz), defers := [] }) (by kernel_rfl) ?_
  refine wpList_plain rfl (fun K hK => ?_)
  refine wp_new _ 47 (alloc_rn _ _ _ rfl) ?_
  intro n8 w1 eb Bn8 hbw
  have hS' := hS.call hbw
  refine hK _ _ ?_
  clear hK K
  have qgn8 : u.heap.size ≤ n8 := (by rw [eb]; exact hS.size)
  have qBn8 : Blk w1 n8 (vals .u64 16 (fun _ => 0)) 47 := Bn8
  clear hS
  have gn8 := qgn8
  have Bn8 := qBn8
  have hS := hS'
  clear hS' qgn8 qBn8
  refine wpList_fr (a' := { tmps := List.toArray (z0 :: z1 :: z2 :: z3 :: z4 :: (.pointer (some ⟨b5, 0, none⟩)) :: z6 :: z7 :: (.pointer (some ⟨n8, 0, none⟩)) :: z9 :: z10 :: z11 :: z12 :: z13 :: z14 :: z15 :: z16 :: z17 :: z18 :: z19 :: z20 :: z21 :: z22 :: z23 :: z24 :: z25 :: z26 :: z27 :: z28 :: z29 :: z30 :: z31 :: z32 :: z33 :: z34 :: z35 :: z36 :: z37 :: (.agg (vals .u64 16 (F.dg u0))) :: zz), defers := [] }) (by kernel_rfl) ?_
  refine wpList_plain rfl (fun K hK => ?_)
  refine wp_store_row 47 _ _ rfl n8 (vals .u64 16 (F.dg u0)) (by kernel_rfl) (by kernel_rfl) 47 _ Bn8 (size_rn _) (by simp only [vals_size]) (vals_one _ _ _) ?_
  have hS' := hS.new gn8 (vals .u64 16 (F.dg u0))
  refine hK _ _ ?_
  clear hK K
  have qgn8 : u.heap.size ≤ n8 := gn8
  have qBn8 : Blk (w1.setRow n8 (vals .u64 16 (F.dg u0))) n8 (vals .u64 16 (F.dg u0)) 47 := (Bn8.row (vals .u64 16 (F.dg u0)))
  clear hS gn8 Bn8
  have gn8 := qgn8
  have Bn8 := qBn8
  have hS := hS'
  clear hS' qgn8 qBn8
  refine wpList_fr (a' := { tmps := List.toArray (z0 :: z1 :: z2 :: z3 :: z4 :: (.pointer (some ⟨b5, 0, none⟩)) :: z6 :: z7 :: (.pointer (some ⟨n8, 0, none⟩)) :: z9 :: z10 :: z11 :: z12 :: z13 :: z14 :: z15 :: z16 :: z17 :: z18 :: z19 :: z20 :: z21 :: z22 :: z23 :: z24 :: z25 :: z26 :: z27 :: z28 :: z29 :: z30 :: z31 :: z32 :: z33 :: z34 :: z35 :: z36 :: z37 :: (.agg (vals .u64 16 (F.dg u0))) :: zz), defers := [] }) (by kernel_rfl) ?_
  generalize (w1.setRow n8 (vals .u64 16 (F.dg u0))) = w2 at *
  refine wpList_nil ?_
  exact H n8 w2 hS gn8 Bn8
def rf8Op0 : Oper := { dst := some 39, op := Op.call { callee := Callee.value (Operand.func 29), args := #[Operand.const (Value.int IntKind.u64 1)], argTypes := #[29] }, type := 47, pos := "ref.go:15", after := #[], guard := none }
def rf8Op1 : Oper := { dst := some 9, op := Op.alloc 47, type := 0, pos := "ref.go:15", after := #[], guard := none }
def rf8Op2 : Oper := { dst := none, op := Op.store 47 (Operand.tmp 9) (Operand.tmp 39), type := 0, pos := "ref.go:15", after := #[{ on := 1, ground := Ground.data }, { on := 0, ground := Ground.data }, { on := 0, ground := Ground.chain }, { on := 0, ground := Ground.phase }, { on := 1, ground := Ground.phase }], guard := none }
def rf8Ops : Array Oper := #[rf8Op0, rf8Op1, rf8Op2]
set_option maxRecDepth 100000 in
set_option maxHeartbeats 2000000 in
theorem rf8_region (Q : Exit → Act → World → Prop) (hQ : ∀ c a w n v, Q (.panic c) (a.put (some n) v) w → Q (.panic c) a w) (u : World) (z0 z1 z2 z3 z4 z5 z6 z7 z8 z9 z10 z11 z12 z13 z14 z15 z16 z17 z18 z19 z20 z21 z22 z23 z24 z25 z26 z27 z28 z29 z30 z31 z32 z33 z34 z35 z36 z37 z38 z39 : Value) (zz : List Value) (H : ∀ (n9 : Nat) (w : World), Kp [] u w → u.heap.size ≤ n9 → Blk w n9 (vals .u64 16 (F.dg 1)) 47 → Q .normal { tmps := List.toArray (z0 :: z1 :: z2 :: z3 :: z4 :: z5 :: z6 :: z7 :: z8 :: (.pointer (some ⟨n9, 0, none⟩)) :: z10 :: z11 :: z12 :: z13 :: z14 :: z15 :: z16 :: z17 :: z18 :: z19 :: z20 :: z21 :: z22 :: z23 :: z24 :: z25 :: z26 :: z27 :: z28 :: z29 :: z30 :: z31 :: z32 :: z33 :: z34 :: z35 :: z36 :: z37 :: z38 :: (.agg (vals .u64 16 (F.dg 1))) :: zz), defers := [] } w) :
    (Code.region 8 rf8Ops false).wp Try.prog Q { tmps := List.toArray (z0 :: z1 :: z2 :: z3 :: z4 :: z5 :: z6 :: z7 :: z8 :: z9 :: z10 :: z11 :: z12 :: z13 :: z14 :: z15 :: z16 :: z17 :: z18 :: z19 :: z20 :: z21 :: z22 :: z23 :: z24 :: z25 :: z26 :: z27 :: z28 :: z29 :: z30 :: z31 :: z32 :: z33 :: z34 :: z35 :: z36 :: z37 :: z38 :: z39 :: zz), defers := [] } u := by
  have _ := hQ
  have _ := u
  have _ := z0
  have _ := z1
  have _ := z2
  have _ := z3
  have _ := z4
  have _ := z5
  have _ := z6
  have _ := z7
  have _ := z8
  have _ := z9
  have _ := z10
  have _ := z11
  have _ := z12
  have _ := z13
  have _ := z14
  have _ := z15
  have _ := z16
  have _ := z17
  have _ := z18
  have _ := z19
  have _ := z20
  have _ := z21
  have _ := z22
  have _ := z23
  have _ := z24
  have _ := z25
  have _ := z26
  have _ := z27
  have _ := z28
  have _ := z29
  have _ := z30
  have _ := z31
  have _ := z32
  have _ := z33
  have _ := z34
  have _ := z35
  have _ := z36
  have _ := z37
  have _ := z38
  have _ := z39
  have _ := zz
  refine wp_region_list (show wpList _ rf8Ops _ [rf8Op0, rf8Op1, rf8Op2] _ _ from ?_)
  have hS : Kp [] u u := Kp.refl _ u
  refine wpList_plain rfl (fun K hK => ?_)
  refine wp_call_val 29 #[.int IntKind.u64 1] (by kernel_rfl) (.agg (vals .u64 16 (F.dg 1))) (rof1_c _) ?_
  intro w0 hbw
  have hS' := hS.call hbw
  refine hK _ _ ?_
  clear hK K
  clear hS
  have hS := hS'
  clear hS'
  refine wpList_fr (a' := { tmps := List.toArray (z0 :: z1 :: z2 :: z3 :: z4 :: z5 :: z6 :: z7 :: z8 :: z9 :: z10 :: z11 :: z12 :: z13 :: z14 :: z15 :: z16 :: z17 :: z18 :: z19 :: z20 :: z21 :: z22 :: z23 :: z24 :: z25 :: z26 :: z27 :: z28 :: z29 :: z30 :: z31 :: z32 :: z33 :: z34 :: z35 :: z36 :: z37 :: z38 :: (.agg (vals .u64 16 (F.dg 1))) :: zz), defers := [] }) (by kernel_rfl) ?_
  refine wpList_plain rfl (fun K hK => ?_)
  refine wp_new _ 47 (alloc_rn _ _ _ rfl) ?_
  intro n9 w1 eb Bn9 hbw
  have hS' := hS.call hbw
  refine hK _ _ ?_
  clear hK K
  have qgn9 : u.heap.size ≤ n9 := (by rw [eb]; exact hS.size)
  have qBn9 : Blk w1 n9 (vals .u64 16 (fun _ => 0)) 47 := Bn9
  clear hS
  have gn9 := qgn9
  have Bn9 := qBn9
  have hS := hS'
  clear hS' qgn9 qBn9
  refine wpList_fr (a' := { tmps := List.toArray (z0 :: z1 :: z2 :: z3 :: z4 :: z5 :: z6 :: z7 :: z8 :: (.pointer (some ⟨n9, 0, none⟩)) :: z10 :: z11 :: z12 :: z13 :: z14 :: z15 :: z16 :: z17 :: z18 :: z19 :: z20 :: z21 :: z22 :: z23 :: z24 :: z25 :: z26 :: z27 :: z28 :: z29 :: z30 :: z31 :: z32 :: z33 :: z34 :: z35 :: z36 :: z37 :: z38 :: (.agg (vals .u64 16 (F.dg 1))) :: zz), defers := [] }) (by kernel_rfl) ?_
  refine wpList_plain rfl (fun K hK => ?_)
  refine wp_store_row 47 _ _ rfl n9 (vals .u64 16 (F.dg 1)) (by kernel_rfl) (by kernel_rfl) 47 _ Bn9 (size_rn _) (by simp only [vals_size]) (vals_one _ _ _) ?_
  have hS' := hS.new gn9 (vals .u64 16 (F.dg 1))
  refine hK _ _ ?_
  clear hK K
  have qgn9 : u.heap.size ≤ n9 := gn9
  have qBn9 : Blk (w1.setRow n9 (vals .u64 16 (F.dg 1))) n9 (vals .u64 16 (F.dg 1)) 47 := (Bn9.row (vals .u64 16 (F.dg 1)))
  clear hS gn9 Bn9
  have gn9 := qgn9
  have Bn9 := qBn9
  have hS := hS'
  clear hS' qgn9 qBn9
  refine wpList_fr (a' := { tmps := List.toArray (z0 :: z1 :: z2 :: z3 :: z4 :: z5 :: z6 :: z7 :: z8 :: (.pointer (some ⟨n9, 0, none⟩)) :: z10 :: z11 :: z12 :: z13 :: z14 :: z15 :: z16 :: z17 :: z18 :: z19 :: z20 :: z21 :: z22 :: z23 :: z24 :: z25 :: z26 :: z27 :: z28 :: z29 :: z30 :: z31 :: z32 :: z33 :: z34 :: z35 :: z36 :: z37 :: z38 :: (.agg (vals .u64 16 (F.dg 1))) :: zz), defers := [] }) (by kernel_rfl) ?_
  generalize (w1.setRow n9 (vals .u64 16 (F.dg 1))) = w2 at *
  refine wpList_nil ?_
  exact H n9 w2 hS gn9 Bn9
def rf14Op0 : Oper := { dst := some 55, op := Op.load 47 (Operand.tmp 8), type := 47, pos := "ref.go:19", after := #[], guard := none }
def rf14Op1 : Oper := { dst := some 56, op := Op.load 47 (Operand.tmp 6), type := 47, pos := "ref.go:19", after := #[], guard := none }
def rf14Op2 : Oper := { dst := none, op := Op.store 47 (Operand.tmp 6) (Operand.tmp 55), type := 0, pos := "ref.go:19", after := #[{ on := 0, ground := Ground.data }, { on := 0, ground := Ground.phase }, { on := 1, ground := Ground.phase }], guard := none }
def rf14Op3 : Oper := { dst := none, op := Op.store 47 (Operand.tmp 8) (Operand.tmp 56), type := 0, pos := "ref.go:19", after := #[{ on := 1, ground := Ground.data }, { on := 2, ground := Ground.chain }, { on := 0, ground := Ground.phase }, { on := 1, ground := Ground.phase }, { on := 2, ground := Ground.phase }], guard := none }
def rf14Ops : Array Oper := #[rf14Op0, rf14Op1, rf14Op2, rf14Op3]
set_option maxRecDepth 100000 in
set_option maxHeartbeats 2000000 in
theorem rf14_region (Q : Exit → Act → World → Prop) (hQ : ∀ c a w n v, Q (.panic c) (a.put (some n) v) w → Q (.panic c) a w) (u : World) (z0 z1 z2 z3 z4 z5 z7 z9 z10 z11 z12 z13 z14 z15 z16 z17 z18 z19 z20 z21 z22 z23 z24 z25 z26 z27 z28 z29 z30 z31 z32 z33 z34 z35 z36 z37 z38 z39 z40 z41 z42 z43 z44 z45 z46 z47 z48 z49 z50 z51 z52 z53 z54 z55 z56 : Value) (zz : List Value) (b6 b8 : Nat) (a c : Nat) (hb6 : Blk u b6 (vals .u64 16 (F.dg a)) 47) (hb8 : Blk u b8 (vals .u64 16 (F.dg c)) 47) (eb6b8 : b6 ≠ b8) (H : ∀ (w : World), Kp [b6, b8] u w → Blk w b6 (vals .u64 16 (F.dg c)) 47 → Blk w b8 (vals .u64 16 (F.dg a)) 47 → Q .normal { tmps := List.toArray (z0 :: z1 :: z2 :: z3 :: z4 :: z5 :: (.pointer (some ⟨b6, 0, none⟩)) :: z7 :: (.pointer (some ⟨b8, 0, none⟩)) :: z9 :: z10 :: z11 :: z12 :: z13 :: z14 :: z15 :: z16 :: z17 :: z18 :: z19 :: z20 :: z21 :: z22 :: z23 :: z24 :: z25 :: z26 :: z27 :: z28 :: z29 :: z30 :: z31 :: z32 :: z33 :: z34 :: z35 :: z36 :: z37 :: z38 :: z39 :: z40 :: z41 :: z42 :: z43 :: z44 :: z45 :: z46 :: z47 :: z48 :: z49 :: z50 :: z51 :: z52 :: z53 :: z54 :: (.agg (vals .u64 16 (F.dg c))) :: (.agg (vals .u64 16 (F.dg a))) :: zz), defers := [] } w) :
    (Code.region 14 rf14Ops false).wp Try.prog Q { tmps := List.toArray (z0 :: z1 :: z2 :: z3 :: z4 :: z5 :: (.pointer (some ⟨b6, 0, none⟩)) :: z7 :: (.pointer (some ⟨b8, 0, none⟩)) :: z9 :: z10 :: z11 :: z12 :: z13 :: z14 :: z15 :: z16 :: z17 :: z18 :: z19 :: z20 :: z21 :: z22 :: z23 :: z24 :: z25 :: z26 :: z27 :: z28 :: z29 :: z30 :: z31 :: z32 :: z33 :: z34 :: z35 :: z36 :: z37 :: z38 :: z39 :: z40 :: z41 :: z42 :: z43 :: z44 :: z45 :: z46 :: z47 :: z48 :: z49 :: z50 :: z51 :: z52 :: z53 :: z54 :: z55 :: z56 :: zz), defers := [] } u := by
  have _ := hQ
  have _ := u
  have _ := z0
  have _ := z1
  have _ := z2
  have _ := z3
  have _ := z4
  have _ := z5
  have _ := z7
  have _ := z9
  have _ := z10
  have _ := z11
  have _ := z12
  have _ := z13
  have _ := z14
  have _ := z15
  have _ := z16
  have _ := z17
  have _ := z18
  have _ := z19
  have _ := z20
  have _ := z21
  have _ := z22
  have _ := z23
  have _ := z24
  have _ := z25
  have _ := z26
  have _ := z27
  have _ := z28
  have _ := z29
  have _ := z30
  have _ := z31
  have _ := z32
  have _ := z33
  have _ := z34
  have _ := z35
  have _ := z36
  have _ := z37
  have _ := z38
  have _ := z39
  have _ := z40
  have _ := z41
  have _ := z42
  have _ := z43
  have _ := z44
  have _ := z45
  have _ := z46
  have _ := z47
  have _ := z48
  have _ := z49
  have _ := z50
  have _ := z51
  have _ := z52
  have _ := z53
  have _ := z54
  have _ := z55
  have _ := z56
  have _ := zz
  have _ := b6
  have _ := b8
  have _ := a
  have _ := c
  have _ := hb6
  have _ := hb8
  have _ := eb6b8
  refine wp_region_list (show wpList _ rf14Ops _ [rf14Op0, rf14Op1, rf14Op2, rf14Op3] _ _ from ?_)
  have hS : Kp [b6, b8] u u := Kp.refl _ u
  have Bb6 := hb6
  have Bb8 := hb8
  refine wpList_plain rfl (fun K hK => ?_)
  refine wp_load_row 47 _ rfl b8 (by kernel_rfl) 47 _ (0, 0) _ Bb8 Try.underlying47 rfl (size_rn _) ?_
  have hS' := hS
  refine hK _ _ ?_
  clear hK K
  have qBb6 : Blk u b6 (vals .u64 16 (F.dg a)) 47 := Bb6
  have qBb8 : Blk u b8 (vals .u64 16 (F.dg c)) 47 := Bb8
  clear hS Bb6 Bb8
  have Bb6 := qBb6
  have Bb8 := qBb8
  have hS := hS'
  clear hS' qBb6 qBb8
  refine wpList_fr (a' := { tmps := List.toArray (z0 :: z1 :: z2 :: z3 :: z4 :: z5 :: (.pointer (some ⟨b6, 0, none⟩)) :: z7 :: (.pointer (some ⟨b8, 0, none⟩)) :: z9 :: z10 :: z11 :: z12 :: z13 :: z14 :: z15 :: z16 :: z17 :: z18 :: z19 :: z20 :: z21 :: z22 :: z23 :: z24 :: z25 :: z26 :: z27 :: z28 :: z29 :: z30 :: z31 :: z32 :: z33 :: z34 :: z35 :: z36 :: z37 :: z38 :: z39 :: z40 :: z41 :: z42 :: z43 :: z44 :: z45 :: z46 :: z47 :: z48 :: z49 :: z50 :: z51 :: z52 :: z53 :: z54 :: (.agg (vals .u64 16 (F.dg c))) :: z56 :: zz), defers := [] }) (by kernel_rfl) ?_
  refine wpList_plain rfl (fun K hK => ?_)
  refine wp_load_row 47 _ rfl b6 (by kernel_rfl) 47 _ (0, 0) _ Bb6 Try.underlying47 rfl (size_rn _) ?_
  have hS' := hS
  refine hK _ _ ?_
  clear hK K
  have qBb6 : Blk u b6 (vals .u64 16 (F.dg a)) 47 := Bb6
  have qBb8 : Blk u b8 (vals .u64 16 (F.dg c)) 47 := Bb8
  clear hS Bb6 Bb8
  have Bb6 := qBb6
  have Bb8 := qBb8
  have hS := hS'
  clear hS' qBb6 qBb8
  refine wpList_fr (a' := { tmps := List.toArray (z0 :: z1 :: z2 :: z3 :: z4 :: z5 :: (.pointer (some ⟨b6, 0, none⟩)) :: z7 :: (.pointer (some ⟨b8, 0, none⟩)) :: z9 :: z10 :: z11 :: z12 :: z13 :: z14 :: z15 :: z16 :: z17 :: z18 :: z19 :: z20 :: z21 :: z22 :: z23 :: z24 :: z25 :: z26 :: z27 :: z28 :: z29 :: z30 :: z31 :: z32 :: z33 :: z34 :: z35 :: z36 :: z37 :: z38 :: z39 :: z40 :: z41 :: z42 :: z43 :: z44 :: z45 :: z46 :: z47 :: z48 :: z49 :: z50 :: z51 :: z52 :: z53 :: z54 :: (.agg (vals .u64 16 (F.dg c))) :: (.agg (vals .u64 16 (F.dg a))) :: zz), defers := [] }) (by kernel_rfl) ?_
  refine wpList_plain rfl (fun K hK => ?_)
  refine wp_store_row 47 _ _ rfl b6 (vals .u64 16 (F.dg c)) (by kernel_rfl) (by kernel_rfl) 47 _ Bb6 (size_rn _) (by simp only [vals_size]) (vals_one _ _ _) ?_
  have hS' := hS.old (x := b6) (by simp) (vals .u64 16 (F.dg c))
  refine hK _ _ ?_
  clear hK K
  have qBb6 : Blk (u.setRow b6 (vals .u64 16 (F.dg c))) b6 (vals .u64 16 (F.dg c)) 47 := (Bb6.row (vals .u64 16 (F.dg c)))
  have qBb8 : Blk (u.setRow b6 (vals .u64 16 (F.dg c))) b8 (vals .u64 16 (F.dg c)) 47 := (Bb8.rowOther (vals .u64 16 (F.dg c)) eb6b8)
  clear hS Bb6 Bb8
  have Bb6 := qBb6
  have Bb8 := qBb8
  have hS := hS'
  clear hS' qBb6 qBb8
  refine wpList_fr (a' := { tmps := List.toArray (z0 :: z1 :: z2 :: z3 :: z4 :: z5 :: (.pointer (some ⟨b6, 0, none⟩)) :: z7 :: (.pointer (some ⟨b8, 0, none⟩)) :: z9 :: z10 :: z11 :: z12 :: z13 :: z14 :: z15 :: z16 :: z17 :: z18 :: z19 :: z20 :: z21 :: z22 :: z23 :: z24 :: z25 :: z26 :: z27 :: z28 :: z29 :: z30 :: z31 :: z32 :: z33 :: z34 :: z35 :: z36 :: z37 :: z38 :: z39 :: z40 :: z41 :: z42 :: z43 :: z44 :: z45 :: z46 :: z47 :: z48 :: z49 :: z50 :: z51 :: z52 :: z53 :: z54 :: (.agg (vals .u64 16 (F.dg c))) :: (.agg (vals .u64 16 (F.dg a))) :: zz), defers := [] }) (by kernel_rfl) ?_
  generalize (u.setRow b6 (vals .u64 16 (F.dg c))) = w2 at *
  refine wpList_plain rfl (fun K hK => ?_)
  refine wp_store_row 47 _ _ rfl b8 (vals .u64 16 (F.dg a)) (by kernel_rfl) (by kernel_rfl) 47 _ Bb8 (size_rn _) (by simp only [vals_size]) (vals_one _ _ _) ?_
  have hS' := hS.old (x := b8) (by simp) (vals .u64 16 (F.dg a))
  refine hK _ _ ?_
  clear hK K
  have qBb6 : Blk (w2.setRow b8 (vals .u64 16 (F.dg a))) b6 (vals .u64 16 (F.dg c)) 47 := (Bb6.rowOther (vals .u64 16 (F.dg a)) (Ne.symm eb6b8))
  have qBb8 : Blk (w2.setRow b8 (vals .u64 16 (F.dg a))) b8 (vals .u64 16 (F.dg a)) 47 := (Bb8.row (vals .u64 16 (F.dg a)))
  clear hS Bb6 Bb8
  have Bb6 := qBb6
  have Bb8 := qBb8
  have hS := hS'
  clear hS' qBb6 qBb8
  refine wpList_fr (a' := { tmps := List.toArray (z0 :: z1 :: z2 :: z3 :: z4 :: z5 :: (.pointer (some ⟨b6, 0, none⟩)) :: z7 :: (.pointer (some ⟨b8, 0, none⟩)) :: z9 :: z10 :: z11 :: z12 :: z13 :: z14 :: z15 :: z16 :: z17 :: z18 :: z19 :: z20 :: z21 :: z22 :: z23 :: z24 :: z25 :: z26 :: z27 :: z28 :: z29 :: z30 :: z31 :: z32 :: z33 :: z34 :: z35 :: z36 :: z37 :: z38 :: z39 :: z40 :: z41 :: z42 :: z43 :: z44 :: z45 :: z46 :: z47 :: z48 :: z49 :: z50 :: z51 :: z52 :: z53 :: z54 :: (.agg (vals .u64 16 (F.dg c))) :: (.agg (vals .u64 16 (F.dg a))) :: zz), defers := [] }) (by kernel_rfl) ?_
  generalize (w2.setRow b8 (vals .u64 16 (F.dg a))) = w3 at *
  refine wpList_nil ?_
  exact H  w3 hS Bb6 Bb8
def rf15Op0 : Oper := { dst := some 57, op := Op.load 47 (Operand.tmp 9), type := 47, pos := "ref.go:20", after := #[], guard := none }
def rf15Op1 : Oper := { dst := some 58, op := Op.load 47 (Operand.tmp 7), type := 47, pos := "ref.go:20", after := #[], guard := none }
def rf15Op2 : Oper := { dst := none, op := Op.store 47 (Operand.tmp 7) (Operand.tmp 57), type := 0, pos := "ref.go:20", after := #[{ on := 0, ground := Ground.data }, { on := 0, ground := Ground.phase }, { on := 1, ground := Ground.phase }], guard := none }
def rf15Op3 : Oper := { dst := none, op := Op.store 47 (Operand.tmp 9) (Operand.tmp 58), type := 0, pos := "ref.go:20", after := #[{ on := 1, ground := Ground.data }, { on := 2, ground := Ground.chain }, { on := 0, ground := Ground.phase }, { on := 1, ground := Ground.phase }, { on := 2, ground := Ground.phase }], guard := none }
def rf15Ops : Array Oper := #[rf15Op0, rf15Op1, rf15Op2, rf15Op3]
set_option maxRecDepth 100000 in
set_option maxHeartbeats 2000000 in
theorem rf15_region (Q : Exit → Act → World → Prop) (hQ : ∀ c a w n v, Q (.panic c) (a.put (some n) v) w → Q (.panic c) a w) (u : World) (z0 z1 z2 z3 z4 z5 z6 z8 z10 z11 z12 z13 z14 z15 z16 z17 z18 z19 z20 z21 z22 z23 z24 z25 z26 z27 z28 z29 z30 z31 z32 z33 z34 z35 z36 z37 z38 z39 z40 z41 z42 z43 z44 z45 z46 z47 z48 z49 z50 z51 z52 z53 z54 z55 z56 z57 z58 : Value) (zz : List Value) (b7 b9 : Nat) (b d : Nat) (hb7 : Blk u b7 (vals .u64 16 (F.dg b)) 47) (hb9 : Blk u b9 (vals .u64 16 (F.dg d)) 47) (eb7b9 : b7 ≠ b9) (H : ∀ (w : World), Kp [b7, b9] u w → Blk w b7 (vals .u64 16 (F.dg d)) 47 → Blk w b9 (vals .u64 16 (F.dg b)) 47 → Q .normal { tmps := List.toArray (z0 :: z1 :: z2 :: z3 :: z4 :: z5 :: z6 :: (.pointer (some ⟨b7, 0, none⟩)) :: z8 :: (.pointer (some ⟨b9, 0, none⟩)) :: z10 :: z11 :: z12 :: z13 :: z14 :: z15 :: z16 :: z17 :: z18 :: z19 :: z20 :: z21 :: z22 :: z23 :: z24 :: z25 :: z26 :: z27 :: z28 :: z29 :: z30 :: z31 :: z32 :: z33 :: z34 :: z35 :: z36 :: z37 :: z38 :: z39 :: z40 :: z41 :: z42 :: z43 :: z44 :: z45 :: z46 :: z47 :: z48 :: z49 :: z50 :: z51 :: z52 :: z53 :: z54 :: z55 :: z56 :: (.agg (vals .u64 16 (F.dg d))) :: (.agg (vals .u64 16 (F.dg b))) :: zz), defers := [] } w) :
    (Code.region 15 rf15Ops false).wp Try.prog Q { tmps := List.toArray (z0 :: z1 :: z2 :: z3 :: z4 :: z5 :: z6 :: (.pointer (some ⟨b7, 0, none⟩)) :: z8 :: (.pointer (some ⟨b9, 0, none⟩)) :: z10 :: z11 :: z12 :: z13 :: z14 :: z15 :: z16 :: z17 :: z18 :: z19 :: z20 :: z21 :: z22 :: z23 :: z24 :: z25 :: z26 :: z27 :: z28 :: z29 :: z30 :: z31 :: z32 :: z33 :: z34 :: z35 :: z36 :: z37 :: z38 :: z39 :: z40 :: z41 :: z42 :: z43 :: z44 :: z45 :: z46 :: z47 :: z48 :: z49 :: z50 :: z51 :: z52 :: z53 :: z54 :: z55 :: z56 :: z57 :: z58 :: zz), defers := [] } u := by
  have _ := hQ
  have _ := u
  have _ := z0
  have _ := z1
  have _ := z2
  have _ := z3
  have _ := z4
  have _ := z5
  have _ := z6
  have _ := z8
  have _ := z10
  have _ := z11
  have _ := z12
  have _ := z13
  have _ := z14
  have _ := z15
  have _ := z16
  have _ := z17
  have _ := z18
  have _ := z19
  have _ := z20
  have _ := z21
  have _ := z22
  have _ := z23
  have _ := z24
  have _ := z25
  have _ := z26
  have _ := z27
  have _ := z28
  have _ := z29
  have _ := z30
  have _ := z31
  have _ := z32
  have _ := z33
  have _ := z34
  have _ := z35
  have _ := z36
  have _ := z37
  have _ := z38
  have _ := z39
  have _ := z40
  have _ := z41
  have _ := z42
  have _ := z43
  have _ := z44
  have _ := z45
  have _ := z46
  have _ := z47
  have _ := z48
  have _ := z49
  have _ := z50
  have _ := z51
  have _ := z52
  have _ := z53
  have _ := z54
  have _ := z55
  have _ := z56
  have _ := z57
  have _ := z58
  have _ := zz
  have _ := b7
  have _ := b9
  have _ := b
  have _ := d
  have _ := hb7
  have _ := hb9
  have _ := eb7b9
  refine wp_region_list (show wpList _ rf15Ops _ [rf15Op0, rf15Op1, rf15Op2, rf15Op3] _ _ from ?_)
  have hS : Kp [b7, b9] u u := Kp.refl _ u
  have Bb7 := hb7
  have Bb9 := hb9
  refine wpList_plain rfl (fun K hK => ?_)
  refine wp_load_row 47 _ rfl b9 (by kernel_rfl) 47 _ (0, 0) _ Bb9 Try.underlying47 rfl (size_rn _) ?_
  have hS' := hS
  refine hK _ _ ?_
  clear hK K
  have qBb7 : Blk u b7 (vals .u64 16 (F.dg b)) 47 := Bb7
  have qBb9 : Blk u b9 (vals .u64 16 (F.dg d)) 47 := Bb9
  clear hS Bb7 Bb9
  have Bb7 := qBb7
  have Bb9 := qBb9
  have hS := hS'
  clear hS' qBb7 qBb9
  refine wpList_fr (a' := { tmps := List.toArray (z0 :: z1 :: z2 :: z3 :: z4 :: z5 :: z6 :: (.pointer (some ⟨b7, 0, none⟩)) :: z8 :: (.pointer (some ⟨b9, 0, none⟩)) :: z10 :: z11 :: z12 :: z13 :: z14 :: z15 :: z16 :: z17 :: z18 :: z19 :: z20 :: z21 :: z22 :: z23 :: z24 :: z25 :: z26 :: z27 :: z28 :: z29 :: z30 :: z31 :: z32 :: z33 :: z34 :: z35 :: z36 :: z37 :: z38 :: z39 :: z40 :: z41 :: z42 :: z43 :: z44 :: z45 :: z46 :: z47 :: z48 :: z49 :: z50 :: z51 :: z52 :: z53 :: z54 :: z55 :: z56 :: (.agg (vals .u64 16 (F.dg d))) :: z58 :: zz), defers := [] }) (by kernel_rfl) ?_
  refine wpList_plain rfl (fun K hK => ?_)
  refine wp_load_row 47 _ rfl b7 (by kernel_rfl) 47 _ (0, 0) _ Bb7 Try.underlying47 rfl (size_rn _) ?_
  have hS' := hS
  refine hK _ _ ?_
  clear hK K
  have qBb7 : Blk u b7 (vals .u64 16 (F.dg b)) 47 := Bb7
  have qBb9 : Blk u b9 (vals .u64 16 (F.dg d)) 47 := Bb9
  clear hS Bb7 Bb9
  have Bb7 := qBb7
  have Bb9 := qBb9
  have hS := hS'
  clear hS' qBb7 qBb9
  refine wpList_fr (a' := { tmps := List.toArray (z0 :: z1 :: z2 :: z3 :: z4 :: z5 :: z6 :: (.pointer (some ⟨b7, 0, none⟩)) :: z8 :: (.pointer (some ⟨b9, 0, none⟩)) :: z10 :: z11 :: z12 :: z13 :: z14 :: z15 :: z16 :: z17 :: z18 :: z19 :: z20 :: z21 :: z22 :: z23 :: z24 :: z25 :: z26 :: z27 :: z28 :: z29 :: z30 :: z31 :: z32 :: z33 :: z34 :: z35 :: z36 :: z37 :: z38 :: z39 :: z40 :: z41 :: z42 :: z43 :: z44 :: z45 :: z46 :: z47 :: z48 :: z49 :: z50 :: z51 :: z52 :: z53 :: z54 :: z55 :: z56 :: (.agg (vals .u64 16 (F.dg d))) :: (.agg (vals .u64 16 (F.dg b))) :: zz), defers := [] }) (by kernel_rfl) ?_
  refine wpList_plain rfl (fun K hK => ?_)
  refine wp_store_row 47 _ _ rfl b7 (vals .u64 16 (F.dg d)) (by kernel_rfl) (by kernel_rfl) 47 _ Bb7 (size_rn _) (by simp only [vals_size]) (vals_one _ _ _) ?_
  have hS' := hS.old (x := b7) (by simp) (vals .u64 16 (F.dg d))
  refine hK _ _ ?_
  clear hK K
  have qBb7 : Blk (u.setRow b7 (vals .u64 16 (F.dg d))) b7 (vals .u64 16 (F.dg d)) 47 := (Bb7.row (vals .u64 16 (F.dg d)))
  have qBb9 : Blk (u.setRow b7 (vals .u64 16 (F.dg d))) b9 (vals .u64 16 (F.dg d)) 47 := (Bb9.rowOther (vals .u64 16 (F.dg d)) eb7b9)
  clear hS Bb7 Bb9
  have Bb7 := qBb7
  have Bb9 := qBb9
  have hS := hS'
  clear hS' qBb7 qBb9
  refine wpList_fr (a' := { tmps := List.toArray (z0 :: z1 :: z2 :: z3 :: z4 :: z5 :: z6 :: (.pointer (some ⟨b7, 0, none⟩)) :: z8 :: (.pointer (some ⟨b9, 0, none⟩)) :: z10 :: z11 :: z12 :: z13 :: z14 :: z15 :: z16 :: z17 :: z18 :: z19 :: z20 :: z21 :: z22 :: z23 :: z24 :: z25 :: z26 :: z27 :: z28 :: z29 :: z30 :: z31 :: z32 :: z33 :: z34 :: z35 :: z36 :: z37 :: z38 :: z39 :: z40 :: z41 :: z42 :: z43 :: z44 :: z45 :: z46 :: z47 :: z48 :: z49 :: z50 :: z51 :: z52 :: z53 :: z54 :: z55 :: z56 :: (.agg (vals .u64 16 (F.dg d))) :: (.agg (vals .u64 16 (F.dg b))) :: zz), defers := [] }) (by kernel_rfl) ?_
  generalize (u.setRow b7 (vals .u64 16 (F.dg d))) = w2 at *
  refine wpList_plain rfl (fun K hK => ?_)
  refine wp_store_row 47 _ _ rfl b9 (vals .u64 16 (F.dg b)) (by kernel_rfl) (by kernel_rfl) 47 _ Bb9 (size_rn _) (by simp only [vals_size]) (vals_one _ _ _) ?_
  have hS' := hS.old (x := b9) (by simp) (vals .u64 16 (F.dg b))
  refine hK _ _ ?_
  clear hK K
  have qBb7 : Blk (w2.setRow b9 (vals .u64 16 (F.dg b))) b7 (vals .u64 16 (F.dg d)) 47 := (Bb7.rowOther (vals .u64 16 (F.dg b)) (Ne.symm eb7b9))
  have qBb9 : Blk (w2.setRow b9 (vals .u64 16 (F.dg b))) b9 (vals .u64 16 (F.dg b)) 47 := (Bb9.row (vals .u64 16 (F.dg b)))
  clear hS Bb7 Bb9
  have Bb7 := qBb7
  have Bb9 := qBb9
  have hS := hS'
  clear hS' qBb7 qBb9
  refine wpList_fr (a' := { tmps := List.toArray (z0 :: z1 :: z2 :: z3 :: z4 :: z5 :: z6 :: (.pointer (some ⟨b7, 0, none⟩)) :: z8 :: (.pointer (some ⟨b9, 0, none⟩)) :: z10 :: z11 :: z12 :: z13 :: z14 :: z15 :: z16 :: z17 :: z18 :: z19 :: z20 :: z21 :: z22 :: z23 :: z24 :: z25 :: z26 :: z27 :: z28 :: z29 :: z30 :: z31 :: z32 :: z33 :: z34 :: z35 :: z36 :: z37 :: z38 :: z39 :: z40 :: z41 :: z42 :: z43 :: z44 :: z45 :: z46 :: z47 :: z48 :: z49 :: z50 :: z51 :: z52 :: z53 :: z54 :: z55 :: z56 :: (.agg (vals .u64 16 (F.dg d))) :: (.agg (vals .u64 16 (F.dg b))) :: zz), defers := [] }) (by kernel_rfl) ?_
  generalize (w2.setRow b9 (vals .u64 16 (F.dg b))) = w3 at *
  refine wpList_nil ?_
  exact H  w3 hS Bb7 Bb9
def rf16Op0 : Oper := { dst := some 59, op := Op.load 47 (Operand.tmp 6), type := 47, pos := "ref.go:22", after := #[], guard := none }
def rf16Op1 : Oper := { dst := some 60, op := Op.load 47 (Operand.tmp 7), type := 47, pos := "ref.go:22", after := #[], guard := none }
def rf16Op2 : Oper := { dst := some 61, op := Op.call { callee := Callee.value (Operand.func 30), args := #[Operand.tmp 59, Operand.tmp 60], argTypes := #[47, 47] }, type := 47, pos := "ref.go:22", after := #[{ on := 0, ground := Ground.data }, { on := 1, ground := Ground.data }], guard := none }
def rf16Op3 : Oper := { dst := some 12, op := Op.alloc 47, type := 0, pos := "ref.go:22", after := #[], guard := none }
def rf16Op4 : Oper := { dst := none, op := Op.store 47 (Operand.tmp 12) (Operand.tmp 61), type := 0, pos := "ref.go:22", after := #[{ on := 3, ground := Ground.data }, { on := 2, ground := Ground.data }, { on := 2, ground := Ground.chain }, { on := 0, ground := Ground.phase }, { on := 1, ground := Ground.phase }, { on := 2, ground := Ground.phase }, { on := 3, ground := Ground.phase }], guard := none }
def rf16Ops : Array Oper := #[rf16Op0, rf16Op1, rf16Op2, rf16Op3, rf16Op4]
set_option maxRecDepth 100000 in
set_option maxHeartbeats 2000000 in
theorem rf16_region (Q : Exit → Act → World → Prop) (hQ : ∀ c a w n v, Q (.panic c) (a.put (some n) v) w → Q (.panic c) a w) (u : World) (z0 z1 z2 z3 z4 z5 z8 z9 z10 z11 z12 z13 z14 z15 z16 z17 z18 z19 z20 z21 z22 z23 z24 z25 z26 z27 z28 z29 z30 z31 z32 z33 z34 z35 z36 z37 z38 z39 z40 z41 z42 z43 z44 z45 z46 z47 z48 z49 z50 z51 z52 z53 z54 z55 z56 z57 z58 z59 z60 z61 : Value) (zz : List Value) (b6 b7 : Nat) (a b : Nat) (ha : a < pP) (hb : b < pP) (hb6 : Blk u b6 (vals .u64 16 (F.dg a)) 47) (nb6 : b6 ∉ ([] : List Nat)) (hb7 : Blk u b7 (vals .u64 16 (F.dg b)) 47) (nb7 : b7 ∉ ([] : List Nat)) (H : ∀ (n12 : Nat) (w : World), Kp [] u w → u.heap.size ≤ n12 → Blk w n12 (vals .u64 16 (F.dg (am a b))) 47 → Q .normal { tmps := List.toArray (z0 :: z1 :: z2 :: z3 :: z4 :: z5 :: (.pointer (some ⟨b6, 0, none⟩)) :: (.pointer (some ⟨b7, 0, none⟩)) :: z8 :: z9 :: z10 :: z11 :: (.pointer (some ⟨n12, 0, none⟩)) :: z13 :: z14 :: z15 :: z16 :: z17 :: z18 :: z19 :: z20 :: z21 :: z22 :: z23 :: z24 :: z25 :: z26 :: z27 :: z28 :: z29 :: z30 :: z31 :: z32 :: z33 :: z34 :: z35 :: z36 :: z37 :: z38 :: z39 :: z40 :: z41 :: z42 :: z43 :: z44 :: z45 :: z46 :: z47 :: z48 :: z49 :: z50 :: z51 :: z52 :: z53 :: z54 :: z55 :: z56 :: z57 :: z58 :: (.agg (vals .u64 16 (F.dg a))) :: (.agg (vals .u64 16 (F.dg b))) :: (.agg (vals .u64 16 (F.dg (am a b)))) :: zz), defers := [] } w) :
    (Code.region 16 rf16Ops false).wp Try.prog Q { tmps := List.toArray (z0 :: z1 :: z2 :: z3 :: z4 :: z5 :: (.pointer (some ⟨b6, 0, none⟩)) :: (.pointer (some ⟨b7, 0, none⟩)) :: z8 :: z9 :: z10 :: z11 :: z12 :: z13 :: z14 :: z15 :: z16 :: z17 :: z18 :: z19 :: z20 :: z21 :: z22 :: z23 :: z24 :: z25 :: z26 :: z27 :: z28 :: z29 :: z30 :: z31 :: z32 :: z33 :: z34 :: z35 :: z36 :: z37 :: z38 :: z39 :: z40 :: z41 :: z42 :: z43 :: z44 :: z45 :: z46 :: z47 :: z48 :: z49 :: z50 :: z51 :: z52 :: z53 :: z54 :: z55 :: z56 :: z57 :: z58 :: z59 :: z60 :: z61 :: zz), defers := [] } u := by
  have _ := hQ
  have _ := u
  have _ := z0
  have _ := z1
  have _ := z2
  have _ := z3
  have _ := z4
  have _ := z5
  have _ := z8
  have _ := z9
  have _ := z10
  have _ := z11
  have _ := z12
  have _ := z13
  have _ := z14
  have _ := z15
  have _ := z16
  have _ := z17
  have _ := z18
  have _ := z19
  have _ := z20
  have _ := z21
  have _ := z22
  have _ := z23
  have _ := z24
  have _ := z25
  have _ := z26
  have _ := z27
  have _ := z28
  have _ := z29
  have _ := z30
  have _ := z31
  have _ := z32
  have _ := z33
  have _ := z34
  have _ := z35
  have _ := z36
  have _ := z37
  have _ := z38
  have _ := z39
  have _ := z40
  have _ := z41
  have _ := z42
  have _ := z43
  have _ := z44
  have _ := z45
  have _ := z46
  have _ := z47
  have _ := z48
  have _ := z49
  have _ := z50
  have _ := z51
  have _ := z52
  have _ := z53
  have _ := z54
  have _ := z55
  have _ := z56
  have _ := z57
  have _ := z58
  have _ := z59
  have _ := z60
  have _ := z61
  have _ := zz
  have _ := b6
  have _ := b7
  have _ := a
  have _ := b
  have _ := ha
  have _ := hb
  have _ := hb6
  have _ := nb6
  have _ := hb7
  have _ := nb7
  refine wp_region_list (show wpList _ rf16Ops _ [rf16Op0, rf16Op1, rf16Op2, rf16Op3, rf16Op4] _ _ from ?_)
  have hS : Kp [] u u := Kp.refl _ u
  refine wpList_plain rfl (fun K hK => ?_)
  refine wp_load_row 47 _ rfl b6 (by kernel_rfl) 47 _ (0, 0) _ (hS.keep _ _ _ nb6 hb6) Try.underlying47 rfl (size_rn _) ?_
  have hS' := hS
  refine hK _ _ ?_
  clear hK K
  clear hS
  have hS := hS'
  clear hS'
  refine wpList_fr (a' := { tmps := List.toArray (z0 :: z1 :: z2 :: z3 :: z4 :: z5 :: (.pointer (some ⟨b6, 0, none⟩)) :: (.pointer (some ⟨b7, 0, none⟩)) :: z8 :: z9 :: z10 :: z11 :: z12 :: z13 :: z14 :: z15 :: z16 :: z17 :: z18 :: z19 :: z20 :: z21 :: z22 :: z23 :: z24 :: z25 :: z26 :: z27 :: z28 :: z29 :: z30 :: z31 :: z32 :: z33 :: z34 :: z35 :: z36 :: z37 :: z38 :: z39 :: z40 :: z41 :: z42 :: z43 :: z44 :: z45 :: z46 :: z47 :: z48 :: z49 :: z50 :: z51 :: z52 :: z53 :: z54 :: z55 :: z56 :: z57 :: z58 :: (.agg (vals .u64 16 (F.dg a))) :: z60 :: z61 :: zz), defers := [] }) (by kernel_rfl) ?_
  refine wpList_plain rfl (fun K hK => ?_)
  refine wp_load_row 47 _ rfl b7 (by kernel_rfl) 47 _ (0, 0) _ (hS.keep _ _ _ nb7 hb7) Try.underlying47 rfl (size_rn _) ?_
  have hS' := hS
  refine hK _ _ ?_
  clear hK K
  clear hS
  have hS := hS'
  clear hS'
  refine wpList_fr (a' := { tmps := List.toArray (z0 :: z1 :: z2 :: z3 :: z4 :: z5 :: (.pointer (some ⟨b6, 0, none⟩)) :: (.pointer (some ⟨b7, 0, none⟩)) :: z8 :: z9 :: z10 :: z11 :: z12 :: z13 :: z14 :: z15 :: z16 :: z17 :: z18 :: z19 :: z20 :: z21 :: z22 :: z23 :: z24 :: z25 :: z26 :: z27 :: z28 :: z29 :: z30 :: z31 :: z32 :: z33 :: z34 :: z35 :: z36 :: z37 :: z38 :: z39 :: z40 :: z41 :: z42 :: z43 :: z44 :: z45 :: z46 :: z47 :: z48 :: z49 :: z50 :: z51 :: z52 :: z53 :: z54 :: z55 :: z56 :: z57 :: z58 :: (.agg (vals .u64 16 (F.dg a))) :: (.agg (vals .u64 16 (F.dg b))) :: z61 :: zz), defers := [] }) (by kernel_rfl) ?_
  refine wpList_plain rfl (fun K hK => ?_)
  refine wp_call_val 30 #[.agg (vals .u64 16 (F.dg a)), .agg (vals .u64 16 (F.dg b))] (by kernel_rfl) (.agg (vals .u64 16 (F.dg (am a b)))) (radd_c a b _ ha hb) ?_
  intro w2 hbw
  have hS' := hS.call hbw
  refine hK _ _ ?_
  clear hK K
  clear hS
  have hS := hS'
  clear hS'
  refine wpList_fr (a' := { tmps := List.toArray (z0 :: z1 :: z2 :: z3 :: z4 :: z5 :: (.pointer (some ⟨b6, 0, none⟩)) :: (.pointer (some ⟨b7, 0, none⟩)) :: z8 :: z9 :: z10 :: z11 :: z12 :: z13 :: z14 :: z15 :: z16 :: z17 :: z18 :: z19 :: z20 :: z21 :: z22 :: z23 :: z24 :: z25 :: z26 :: z27 :: z28 :: z29 :: z30 :: z31 :: z32 :: z33 :: z34 :: z35 :: z36 :: z37 :: z38 :: z39 :: z40 :: z41 :: z42 :: z43 :: z44 :: z45 :: z46 :: z47 :: z48 :: z49 :: z50 :: z51 :: z52 :: z53 :: z54 :: z55 :: z56 :: z57 :: z58 :: (.agg (vals .u64 16 (F.dg a))) :: (.agg (vals .u64 16 (F.dg b))) :: (.agg (vals .u64 16 (F.dg (am a b)))) :: zz), defers := [] }) (by kernel_rfl) ?_
  refine wpList_plain rfl (fun K hK => ?_)
  refine wp_new _ 47 (alloc_rn _ _ _ rfl) ?_
  intro n12 w3 eb Bn12 hbw
  have hS' := hS.call hbw
  refine hK _ _ ?_
  clear hK K
  have qgn12 : u.heap.size ≤ n12 := (by rw [eb]; exact hS.size)
  have qBn12 : Blk w3 n12 (vals .u64 16 (fun _ => 0)) 47 := Bn12
  clear hS
  have gn12 := qgn12
  have Bn12 := qBn12
  have hS := hS'
  clear hS' qgn12 qBn12
  refine wpList_fr (a' := { tmps := List.toArray (z0 :: z1 :: z2 :: z3 :: z4 :: z5 :: (.pointer (some ⟨b6, 0, none⟩)) :: (.pointer (some ⟨b7, 0, none⟩)) :: z8 :: z9 :: z10 :: z11 :: (.pointer (some ⟨n12, 0, none⟩)) :: z13 :: z14 :: z15 :: z16 :: z17 :: z18 :: z19 :: z20 :: z21 :: z22 :: z23 :: z24 :: z25 :: z26 :: z27 :: z28 :: z29 :: z30 :: z31 :: z32 :: z33 :: z34 :: z35 :: z36 :: z37 :: z38 :: z39 :: z40 :: z41 :: z42 :: z43 :: z44 :: z45 :: z46 :: z47 :: z48 :: z49 :: z50 :: z51 :: z52 :: z53 :: z54 :: z55 :: z56 :: z57 :: z58 :: (.agg (vals .u64 16 (F.dg a))) :: (.agg (vals .u64 16 (F.dg b))) :: (.agg (vals .u64 16 (F.dg (am a b)))) :: zz), defers := [] }) (by kernel_rfl) ?_
  refine wpList_plain rfl (fun K hK => ?_)
  refine wp_store_row 47 _ _ rfl n12 (vals .u64 16 (F.dg (am a b))) (by kernel_rfl) (by kernel_rfl) 47 _ Bn12 (size_rn _) (by simp only [vals_size]) (vals_one _ _ _) ?_
  have hS' := hS.new gn12 (vals .u64 16 (F.dg (am a b)))
  refine hK _ _ ?_
  clear hK K
  have qgn12 : u.heap.size ≤ n12 := gn12
  have qBn12 : Blk (w3.setRow n12 (vals .u64 16 (F.dg (am a b)))) n12 (vals .u64 16 (F.dg (am a b))) 47 := (Bn12.row (vals .u64 16 (F.dg (am a b))))
  clear hS gn12 Bn12
  have gn12 := qgn12
  have Bn12 := qBn12
  have hS := hS'
  clear hS' qgn12 qBn12
  refine wpList_fr (a' := { tmps := List.toArray (z0 :: z1 :: z2 :: z3 :: z4 :: z5 :: (.pointer (some ⟨b6, 0, none⟩)) :: (.pointer (some ⟨b7, 0, none⟩)) :: z8 :: z9 :: z10 :: z11 :: (.pointer (some ⟨n12, 0, none⟩)) :: z13 :: z14 :: z15 :: z16 :: z17 :: z18 :: z19 :: z20 :: z21 :: z22 :: z23 :: z24 :: z25 :: z26 :: z27 :: z28 :: z29 :: z30 :: z31 :: z32 :: z33 :: z34 :: z35 :: z36 :: z37 :: z38 :: z39 :: z40 :: z41 :: z42 :: z43 :: z44 :: z45 :: z46 :: z47 :: z48 :: z49 :: z50 :: z51 :: z52 :: z53 :: z54 :: z55 :: z56 :: z57 :: z58 :: (.agg (vals .u64 16 (F.dg a))) :: (.agg (vals .u64 16 (F.dg b))) :: (.agg (vals .u64 16 (F.dg (am a b)))) :: zz), defers := [] }) (by kernel_rfl) ?_
  generalize (w3.setRow n12 (vals .u64 16 (F.dg (am a b)))) = w4 at *
  refine wpList_nil ?_
  exact H n12 w4 hS gn12 Bn12
def rf17Op0 : Oper := { dst := some 62, op := Op.load 47 (Operand.tmp 6), type := 47, pos := "ref.go:23", after := #[], guard := none }
def rf17Op1 : Oper := { dst := some 63, op := Op.load 47 (Operand.tmp 7), type := 47, pos := "ref.go:23", after := #[], guard := none }
def rf17Op2 : Oper := { dst := some 64, op := Op.call { callee := Callee.value (Operand.func 31), args := #[Operand.tmp 62, Operand.tmp 63], argTypes := #[47, 47] }, type := 47, pos := "ref.go:23", after := #[{ on := 0, ground := Ground.data }, { on := 1, ground := Ground.data }], guard := none }
def rf17Op3 : Oper := { dst := some 13, op := Op.alloc 47, type := 0, pos := "ref.go:23", after := #[], guard := none }
def rf17Op4 : Oper := { dst := none, op := Op.store 47 (Operand.tmp 13) (Operand.tmp 64), type := 0, pos := "ref.go:23", after := #[{ on := 3, ground := Ground.data }, { on := 2, ground := Ground.data }, { on := 2, ground := Ground.chain }, { on := 0, ground := Ground.phase }, { on := 1, ground := Ground.phase }, { on := 2, ground := Ground.phase }, { on := 3, ground := Ground.phase }], guard := none }
def rf17Ops : Array Oper := #[rf17Op0, rf17Op1, rf17Op2, rf17Op3, rf17Op4]
set_option maxRecDepth 100000 in
set_option maxHeartbeats 2000000 in
theorem rf17_region (Q : Exit → Act → World → Prop) (hQ : ∀ c a w n v, Q (.panic c) (a.put (some n) v) w → Q (.panic c) a w) (u : World) (z0 z1 z2 z3 z4 z5 z8 z9 z10 z11 z12 z13 z14 z15 z16 z17 z18 z19 z20 z21 z22 z23 z24 z25 z26 z27 z28 z29 z30 z31 z32 z33 z34 z35 z36 z37 z38 z39 z40 z41 z42 z43 z44 z45 z46 z47 z48 z49 z50 z51 z52 z53 z54 z55 z56 z57 z58 z59 z60 z61 z62 z63 z64 : Value) (zz : List Value) (b6 b7 : Nat) (a b : Nat) (ha : a < pP) (hb : b < pP) (hb6 : Blk u b6 (vals .u64 16 (F.dg a)) 47) (nb6 : b6 ∉ ([] : List Nat)) (hb7 : Blk u b7 (vals .u64 16 (F.dg b)) 47) (nb7 : b7 ∉ ([] : List Nat)) (H : ∀ (n13 : Nat) (w : World), Kp [] u w → u.heap.size ≤ n13 → Blk w n13 (vals .u64 16 (F.dg (sm a b))) 47 → Q .normal { tmps := List.toArray (z0 :: z1 :: z2 :: z3 :: z4 :: z5 :: (.pointer (some ⟨b6, 0, none⟩)) :: (.pointer (some ⟨b7, 0, none⟩)) :: z8 :: z9 :: z10 :: z11 :: z12 :: (.pointer (some ⟨n13, 0, none⟩)) :: z14 :: z15 :: z16 :: z17 :: z18 :: z19 :: z20 :: z21 :: z22 :: z23 :: z24 :: z25 :: z26 :: z27 :: z28 :: z29 :: z30 :: z31 :: z32 :: z33 :: z34 :: z35 :: z36 :: z37 :: z38 :: z39 :: z40 :: z41 :: z42 :: z43 :: z44 :: z45 :: z46 :: z47 :: z48 :: z49 :: z50 :: z51 :: z52 :: z53 :: z54 :: z55 :: z56 :: z57 :: z58 :: z59 :: z60 :: z61 :: (.agg (vals .u64 16 (F.dg a))) :: (.agg (vals .u64 16 (F.dg b))) :: (.agg (vals .u64 16 (F.dg (sm a b)))) :: zz), defers := [] } w) :
    (Code.region 17 rf17Ops false).wp Try.prog Q { tmps := List.toArray (z0 :: z1 :: z2 :: z3 :: z4 :: z5 :: (.pointer (some ⟨b6, 0, none⟩)) :: (.pointer (some ⟨b7, 0, none⟩)) :: z8 :: z9 :: z10 :: z11 :: z12 :: z13 :: z14 :: z15 :: z16 :: z17 :: z18 :: z19 :: z20 :: z21 :: z22 :: z23 :: z24 :: z25 :: z26 :: z27 :: z28 :: z29 :: z30 :: z31 :: z32 :: z33 :: z34 :: z35 :: z36 :: z37 :: z38 :: z39 :: z40 :: z41 :: z42 :: z43 :: z44 :: z45 :: z46 :: z47 :: z48 :: z49 :: z50 :: z51 :: z52 :: z53 :: z54 :: z55 :: z56 :: z57 :: z58 :: z59 :: z60 :: z61 :: z62 :: z63 :: z64 :: zz), defers := [] } u := by
  have _ := hQ
  have _ := u
  have _ := z0
  have _ := z1
  have _ := z2
  have _ := z3
  have _ := z4
  have _ := z5
  have _ := z8
  have _ := z9
  have _ := z10
  have _ := z11
  have _ := z12
  have _ := z13
  have _ := z14
  have _ := z15
  have _ := z16
  have _ := z17
  have _ := z18
  have _ := z19
  have _ := z20
  have _ := z21
  have _ := z22
  have _ := z23
  have _ := z24
  have _ := z25
  have _ := z26
  have _ := z27
  have _ := z28
  have _ := z29
  have _ := z30
  have _ := z31
  have _ := z32
  have _ := z33
  have _ := z34
  have _ := z35
  have _ := z36
  have _ := z37
  have _ := z38
  have _ := z39
  have _ := z40
  have _ := z41
  have _ := z42
  have _ := z43
  have _ := z44
  have _ := z45
  have _ := z46
  have _ := z47
  have _ := z48
  have _ := z49
  have _ := z50
  have _ := z51
  have _ := z52
  have _ := z53
  have _ := z54
  have _ := z55
  have _ := z56
  have _ := z57
  have _ := z58
  have _ := z59
  have _ := z60
  have _ := z61
  have _ := z62
  have _ := z63
  have _ := z64
  have _ := zz
  have _ := b6
  have _ := b7
  have _ := a
  have _ := b
  have _ := ha
  have _ := hb
  have _ := hb6
  have _ := nb6
  have _ := hb7
  have _ := nb7
  refine wp_region_list (show wpList _ rf17Ops _ [rf17Op0, rf17Op1, rf17Op2, rf17Op3, rf17Op4] _ _ from ?_)
  have hS : Kp [] u u := Kp.refl _ u
  refine wpList_plain rfl (fun K hK => ?_)
  refine wp_load_row 47 _ rfl b6 (by kernel_rfl) 47 _ (0, 0) _ (hS.keep _ _ _ nb6 hb6) Try.underlying47 rfl (size_rn _) ?_
  have hS' := hS
  refine hK _ _ ?_
  clear hK K
  clear hS
  have hS := hS'
  clear hS'
  refine wpList_fr (a' := { tmps := List.toArray (z0 :: z1 :: z2 :: z3 :: z4 :: z5 :: (.pointer (some ⟨b6, 0, none⟩)) :: (.pointer (some ⟨b7, 0, none⟩)) :: z8 :: z9 :: z10 :: z11 :: z12 :: z13 :: z14 :: z15 :: z16 :: z17 :: z18 :: z19 :: z20 :: z21 :: z22 :: z23 :: z24 :: z25 :: z26 :: z27 :: z28 :: z29 :: z30 :: z31 :: z32 :: z33 :: z34 :: z35 :: z36 :: z37 :: z38 :: z39 :: z40 :: z41 :: z42 :: z43 :: z44 :: z45 :: z46 :: z47 :: z48 :: z49 :: z50 :: z51 :: z52 :: z53 :: z54 :: z55 :: z56 :: z57 :: z58 :: z59 :: z60 :: z61 :: (.agg (vals .u64 16 (F.dg a))) :: z63 :: z64 :: zz), defers := [] }) (by kernel_rfl) ?_
  refine wpList_plain rfl (fun K hK => ?_)
  refine wp_load_row 47 _ rfl b7 (by kernel_rfl) 47 _ (0, 0) _ (hS.keep _ _ _ nb7 hb7) Try.underlying47 rfl (size_rn _) ?_
  have hS' := hS
  refine hK _ _ ?_
  clear hK K
  clear hS
  have hS := hS'
  clear hS'
  refine wpList_fr (a' := { tmps := List.toArray (z0 :: z1 :: z2 :: z3 :: z4 :: z5 :: (.pointer (some ⟨b6, 0, none⟩)) :: (.pointer (some ⟨b7, 0, none⟩)) :: z8 :: z9 :: z10 :: z11 :: z12 :: z13 :: z14 :: z15 :: z16 :: z17 :: z18 :: z19 :: z20 :: z21 :: z22 :: z23 :: z24 :: z25 :: z26 :: z27 :: z28 :: z29 :: z30 :: z31 :: z32 :: z33 :: z34 :: z35 :: z36 :: z37 :: z38 :: z39 :: z40 :: z41 :: z42 :: z43 :: z44 :: z45 :: z46 :: z47 :: z48 :: z49 :: z50 :: z51 :: z52 :: z53 :: z54 :: z55 :: z56 :: z57 :: z58 :: z59 :: z60 :: z61 :: (.agg (vals .u64 16 (F.dg a))) :: (.agg (vals .u64 16 (F.dg b))) :: z64 :: zz), defers := [] }) (by kernel_rfl) ?_
  refine wpList_plain rfl (fun K hK => ?_)
  refine wp_call_val 31 #[.agg (vals .u64 16 (F.dg a)), .agg (vals .u64 16 (F.dg b))] (by kernel_rfl) (.agg (vals .u64 16 (F.dg (sm a b)))) (rsub_c a b _ ha hb) ?_
  intro w2 hbw
  have hS' := hS.call hbw
  refine hK _ _ ?_
  clear hK K
  clear hS
  have hS := hS'
  clear hS'
  refine wpList_fr (a' := { tmps := List.toArray (z0 :: z1 :: z2 :: z3 :: z4 :: z5 :: (.pointer (some ⟨b6, 0, none⟩)) :: (.pointer (some ⟨b7, 0, none⟩)) :: z8 :: z9 :: z10 :: z11 :: z12 :: z13 :: z14 :: z15 :: z16 :: z17 :: z18 :: z19 :: z20 :: z21 :: z22 :: z23 :: z24 :: z25 :: z26 :: z27 :: z28 :: z29 :: z30 :: z31 :: z32 :: z33 :: z34 :: z35 :: z36 :: z37 :: z38 :: z39 :: z40 :: z41 :: z42 :: z43 :: z44 :: z45 :: z46 :: z47 :: z48 :: z49 :: z50 :: z51 :: z52 :: z53 :: z54 :: z55 :: z56 :: z57 :: z58 :: z59 :: z60 :: z61 :: (.agg (vals .u64 16 (F.dg a))) :: (.agg (vals .u64 16 (F.dg b))) :: (.agg (vals .u64 16 (F.dg (sm a b)))) :: zz), defers := [] }) (by kernel_rfl) ?_
  refine wpList_plain rfl (fun K hK => ?_)
  refine wp_new _ 47 (alloc_rn _ _ _ rfl) ?_
  intro n13 w3 eb Bn13 hbw
  have hS' := hS.call hbw
  refine hK _ _ ?_
  clear hK K
  have qgn13 : u.heap.size ≤ n13 := (by rw [eb]; exact hS.size)
  have qBn13 : Blk w3 n13 (vals .u64 16 (fun _ => 0)) 47 := Bn13
  clear hS
  have gn13 := qgn13
  have Bn13 := qBn13
  have hS := hS'
  clear hS' qgn13 qBn13
  refine wpList_fr (a' := { tmps := List.toArray (z0 :: z1 :: z2 :: z3 :: z4 :: z5 :: (.pointer (some ⟨b6, 0, none⟩)) :: (.pointer (some ⟨b7, 0, none⟩)) :: z8 :: z9 :: z10 :: z11 :: z12 :: (.pointer (some ⟨n13, 0, none⟩)) :: z14 :: z15 :: z16 :: z17 :: z18 :: z19 :: z20 :: z21 :: z22 :: z23 :: z24 :: z25 :: z26 :: z27 :: z28 :: z29 :: z30 :: z31 :: z32 :: z33 :: z34 :: z35 :: z36 :: z37 :: z38 :: z39 :: z40 :: z41 :: z42 :: z43 :: z44 :: z45 :: z46 :: z47 :: z48 :: z49 :: z50 :: z51 :: z52 :: z53 :: z54 :: z55 :: z56 :: z57 :: z58 :: z59 :: z60 :: z61 :: (.agg (vals .u64 16 (F.dg a))) :: (.agg (vals .u64 16 (F.dg b))) :: (.agg (vals .u64 16 (F.dg (sm a b)))) :: zz), defers := [] }) (by kernel_rfl) ?_
  refine wpList_plain rfl (fun K hK => ?_)
  refine wp_store_row 47 _ _ rfl n13 (vals .u64 16 (F.dg (sm a b))) (by kernel_rfl) (by kernel_rfl) 47 _ Bn13 (size_rn _) (by simp only [vals_size]) (vals_one _ _ _) ?_
  have hS' := hS.new gn13 (vals .u64 16 (F.dg (sm a b)))
  refine hK _ _ ?_
  clear hK K
  have qgn13 : u.heap.size ≤ n13 := gn13
  have qBn13 : Blk (w3.setRow n13 (vals .u64 16 (F.dg (sm a b)))) n13 (vals .u64 16 (F.dg (sm a b))) 47 := (Bn13.row (vals .u64 16 (F.dg (sm a b))))
  clear hS gn13 Bn13
  have gn13 := qgn13
  have Bn13 := qBn13
  have hS := hS'
  clear hS' qgn13 qBn13
  refine wpList_fr (a' := { tmps := List.toArray (z0 :: z1 :: z2 :: z3 :: z4 :: z5 :: (.pointer (some ⟨b6, 0, none⟩)) :: (.pointer (some ⟨b7, 0, none⟩)) :: z8 :: z9 :: z10 :: z11 :: z12 :: (.pointer (some ⟨n13, 0, none⟩)) :: z14 :: z15 :: z16 :: z17 :: z18 :: z19 :: z20 :: z21 :: z22 :: z23 :: z24 :: z25 :: z26 :: z27 :: z28 :: z29 :: z30 :: z31 :: z32 :: z33 :: z34 :: z35 :: z36 :: z37 :: z38 :: z39 :: z40 :: z41 :: z42 :: z43 :: z44 :: z45 :: z46 :: z47 :: z48 :: z49 :: z50 :: z51 :: z52 :: z53 :: z54 :: z55 :: z56 :: z57 :: z58 :: z59 :: z60 :: z61 :: (.agg (vals .u64 16 (F.dg a))) :: (.agg (vals .u64 16 (F.dg b))) :: (.agg (vals .u64 16 (F.dg (sm a b)))) :: zz), defers := [] }) (by kernel_rfl) ?_
  generalize (w3.setRow n13 (vals .u64 16 (F.dg (sm a b)))) = w4 at *
  refine wpList_nil ?_
  exact H n13 w4 hS gn13 Bn13
def rf18Op0 : Oper := { dst := some 65, op := Op.load 47 (Operand.tmp 12), type := 47, pos := "ref.go:24", after := #[], guard := none }
def rf18Op1 : Oper := { dst := some 66, op := Op.load 47 (Operand.tmp 12), type := 47, pos := "ref.go:24", after := #[], guard := none }
def rf18Op2 : Oper := { dst := some 67, op := Op.call { callee := Callee.value (Operand.func 32), args := #[Operand.tmp 65, Operand.tmp 66], argTypes := #[47, 47] }, type := 47, pos := "ref.go:24", after := #[{ on := 0, ground := Ground.data }, { on := 1, ground := Ground.data }], guard := none }
def rf18Op3 : Oper := { dst := some 14, op := Op.alloc 47, type := 0, pos := "ref.go:24", after := #[], guard := none }
def rf18Op4 : Oper := { dst := none, op := Op.store 47 (Operand.tmp 14) (Operand.tmp 67), type := 0, pos := "ref.go:24", after := #[{ on := 3, ground := Ground.data }, { on := 2, ground := Ground.data }, { on := 2, ground := Ground.chain }, { on := 0, ground := Ground.phase }, { on := 1, ground := Ground.phase }, { on := 2, ground := Ground.phase }, { on := 3, ground := Ground.phase }], guard := none }
def rf18Ops : Array Oper := #[rf18Op0, rf18Op1, rf18Op2, rf18Op3, rf18Op4]
set_option maxRecDepth 100000 in
set_option maxHeartbeats 2000000 in
theorem rf18_region (Q : Exit → Act → World → Prop) (hQ : ∀ c a w n v, Q (.panic c) (a.put (some n) v) w → Q (.panic c) a w) (u : World) (z0 z1 z2 z3 z4 z5 z6 z7 z8 z9 z10 z11 z13 z14 z15 z16 z17 z18 z19 z20 z21 z22 z23 z24 z25 z26 z27 z28 z29 z30 z31 z32 z33 z34 z35 z36 z37 z38 z39 z40 z41 z42 z43 z44 z45 z46 z47 z48 z49 z50 z51 z52 z53 z54 z55 z56 z57 z58 z59 z60 z61 z62 z63 z64 z65 z66 z67 : Value) (zz : List Value) (b12 : Nat) (p : Nat) (hp : p < pP) (hb12 : Blk u b12 (vals .u64 16 (F.dg p)) 47) (nb12 : b12 ∉ ([] : List Nat)) (H : ∀ (n14 : Nat) (w : World), Kp [] u w → u.heap.size ≤ n14 → Blk w n14 (vals .u64 16 (F.dg (mm p p))) 47 → Q .normal { tmps := List.toArray (z0 :: z1 :: z2 :: z3 :: z4 :: z5 :: z6 :: z7 :: z8 :: z9 :: z10 :: z11 :: (.pointer (some ⟨b12, 0, none⟩)) :: z13 :: (.pointer (some ⟨n14, 0, none⟩)) :: z15 :: z16 :: z17 :: z18 :: z19 :: z20 :: z21 :: z22 :: z23 :: z24 :: z25 :: z26 :: z27 :: z28 :: z29 :: z30 :: z31 :: z32 :: z33 :: z34 :: z35 :: z36 :: z37 :: z38 :: z39 :: z40 :: z41 :: z42 :: z43 :: z44 :: z45 :: z46 :: z47 :: z48 :: z49 :: z50 :: z51 :: z52 :: z53 :: z54 :: z55 :: z56 :: z57 :: z58 :: z59 :: z60 :: z61 :: z62 :: z63 :: z64 :: (.agg (vals .u64 16 (F.dg p))) :: (.agg (vals .u64 16 (F.dg p))) :: (.agg (vals .u64 16 (F.dg (mm p p)))) :: zz), defers := [] } w) :
    (Code.region 18 rf18Ops false).wp Try.prog Q { tmps := List.toArray (z0 :: z1 :: z2 :: z3 :: z4 :: z5 :: z6 :: z7 :: z8 :: z9 :: z10 :: z11 :: (.pointer (some ⟨b12, 0, none⟩)) :: z13 :: z14 :: z15 :: z16 :: z17 :: z18 :: z19 :: z20 :: z21 :: z22 :: z23 :: z24 :: z25 :: z26 :: z27 :: z28 :: z29 :: z30 :: z31 :: z32 :: z33 :: z34 :: z35 :: z36 :: z37 :: z38 :: z39 :: z40 :: z41 :: z42 :: z43 :: z44 :: z45 :: z46 :: z47 :: z48 :: z49 :: z50 :: z51 :: z52 :: z53 :: z54 :: z55 :: z56 :: z57 :: z58 :: z59 :: z60 :: z61 :: z62 :: z63 :: z64 :: z65 :: z66 :: z67 :: zz), defers := [] } u := by
  have _ := hQ
  have _ := u
  have _ := z0
  have _ := z1
  have _ := z2
  have _ := z3
  have _ := z4
  have _ := z5
  have _ := z6
  have _ := z7
  have _ := z8
  have _ := z9
  have _ := z10
  have _ := z11
  have _ := z13
  have _ := z14
  have _ := z15
  have _ := z16
  have _ := z17
  have _ := z18
  have _ := z19
  have _ := z20
  have _ := z21
  have _ := z22
  have _ := z23
  have _ := z24
  have _ := z25
  have _ := z26
  have _ := z27
  have _ := z28
  have _ := z29
  have _ := z30
  have _ := z31
  have _ := z32
  have _ := z33
  have _ := z34
  have _ := z35
  have _ := z36
  have _ := z37
  have _ := z38
  have _ := z39
  have _ := z40
  have _ := z41
  have _ := z42
  have _ := z43
  have _ := z44
  have _ := z45
  have _ := z46
  have _ := z47
  have _ := z48
  have _ := z49
  have _ := z50
  have _ := z51
  have _ := z52
  have _ := z53
  have _ := z54
  have _ := z55
  have _ := z56
  have _ := z57
  have _ := z58
  have _ := z59
  have _ := z60
  have _ := z61
  have _ := z62
  have _ := z63
  have _ := z64
  have _ := z65
  have _ := z66
  have _ := z67
  have _ := zz
  have _ := b12
  have _ := p
  have _ := hp
  have _ := hb12
  have _ := nb12
  refine wp_region_list (show wpList _ rf18Ops _ [rf18Op0, rf18Op1, rf18Op2, rf18Op3, rf18Op4] _ _ from ?_)
  have hS : Kp [] u u := Kp.refl _ u
  refine wpList_plain rfl (fun K hK => ?_)
  refine wp_load_row 47 _ rfl b12 (by kernel_rfl) 47 _ (0, 0) _ (hS.keep _ _ _ nb12 hb12) Try.underlying47 rfl (size_rn _) ?_
  have hS' := hS
  refine hK _ _ ?_
  clear hK K
  clear hS
  have hS := hS'
  clear hS'
  refine wpList_fr (a' := { tmps := List.toArray (z0 :: z1 :: z2 :: z3 :: z4 :: z5 :: z6 :: z7 :: z8 :: z9 :: z10 :: z11 :: (.pointer (some ⟨b12, 0, none⟩)) :: z13 :: z14 :: z15 :: z16 :: z17 :: z18 :: z19 :: z20 :: z21 :: z22 :: z23 :: z24 :: z25 :: z26 :: z27 :: z28 :: z29 :: z30 :: z31 :: z32 :: z33 :: z34 :: z35 :: z36 :: z37 :: z38 :: z39 :: z40 :: z41 :: z42 :: z43 :: z44 :: z45 :: z46 :: z47 :: z48 :: z49 :: z50 :: z51 :: z52 :: z53 :: z54 :: z55 :: z56 :: z57 :: z58 :: z59 :: z60 :: z61 :: z62 :: z63 :: z64 :: (.agg (vals .u64 16 (F.dg p))) :: z66 :: z67 :: zz), defers := [] }) (by kernel_rfl) ?_
  refine wpList_plain rfl (fun K hK => ?_)
  refine wp_load_row 47 _ rfl b12 (by kernel_rfl) 47 _ (0, 0) _ (hS.keep _ _ _ nb12 hb12) Try.underlying47 rfl (size_rn _) ?_
  have hS' := hS
  refine hK _ _ ?_
  clear hK K
  clear hS
  have hS := hS'
  clear hS'
  refine wpList_fr (a' := { tmps := List.toArray (z0 :: z1 :: z2 :: z3 :: z4 :: z5 :: z6 :: z7 :: z8 :: z9 :: z10 :: z11 :: (.pointer (some ⟨b12, 0, none⟩)) :: z13 :: z14 :: z15 :: z16 :: z17 :: z18 :: z19 :: z20 :: z21 :: z22 :: z23 :: z24 :: z25 :: z26 :: z27 :: z28 :: z29 :: z30 :: z31 :: z32 :: z33 :: z34 :: z35 :: z36 :: z37 :: z38 :: z39 :: z40 :: z41 :: z42 :: z43 :: z44 :: z45 :: z46 :: z47 :: z48 :: z49 :: z50 :: z51 :: z52 :: z53 :: z54 :: z55 :: z56 :: z57 :: z58 :: z59 :: z60 :: z61 :: z62 :: z63 :: z64 :: (.agg (vals .u64 16 (F.dg p))) :: (.agg (vals .u64 16 (F.dg p))) :: z67 :: zz), defers := [] }) (by kernel_rfl) ?_
  refine wpList_plain rfl (fun K hK => ?_)
  refine wp_call_val 32 #[.agg (vals .u64 16 (F.dg p)), .agg (vals .u64 16 (F.dg p))] (by kernel_rfl) (.agg (vals .u64 16 (F.dg (mm p p)))) (rmul_c p p _ hp hp) ?_
  intro w2 hbw
  have hS' := hS.call hbw
  refine hK _ _ ?_
  clear hK K
  clear hS
  have hS := hS'
  clear hS'
  refine wpList_fr (a' := { tmps := List.toArray (z0 :: z1 :: z2 :: z3 :: z4 :: z5 :: z6 :: z7 :: z8 :: z9 :: z10 :: z11 :: (.pointer (some ⟨b12, 0, none⟩)) :: z13 :: z14 :: z15 :: z16 :: z17 :: z18 :: z19 :: z20 :: z21 :: z22 :: z23 :: z24 :: z25 :: z26 :: z27 :: z28 :: z29 :: z30 :: z31 :: z32 :: z33 :: z34 :: z35 :: z36 :: z37 :: z38 :: z39 :: z40 :: z41 :: z42 :: z43 :: z44 :: z45 :: z46 :: z47 :: z48 :: z49 :: z50 :: z51 :: z52 :: z53 :: z54 :: z55 :: z56 :: z57 :: z58 :: z59 :: z60 :: z61 :: z62 :: z63 :: z64 :: (.agg (vals .u64 16 (F.dg p))) :: (.agg (vals .u64 16 (F.dg p))) :: (.agg (vals .u64 16 (F.dg (mm p p)))) :: zz), defers := [] }) (by kernel_rfl) ?_
  refine wpList_plain rfl (fun K hK => ?_)
  refine wp_new _ 47 (alloc_rn _ _ _ rfl) ?_
  intro n14 w3 eb Bn14 hbw
  have hS' := hS.call hbw
  refine hK _ _ ?_
  clear hK K
  have qgn14 : u.heap.size ≤ n14 := (by rw [eb]; exact hS.size)
  have qBn14 : Blk w3 n14 (vals .u64 16 (fun _ => 0)) 47 := Bn14
  clear hS
  have gn14 := qgn14
  have Bn14 := qBn14
  have hS := hS'
  clear hS' qgn14 qBn14
  refine wpList_fr (a' := { tmps := List.toArray (z0 :: z1 :: z2 :: z3 :: z4 :: z5 :: z6 :: z7 :: z8 :: z9 :: z10 :: z11 :: (.pointer (some ⟨b12, 0, none⟩)) :: z13 :: (.pointer (some ⟨n14, 0, none⟩)) :: z15 :: z16 :: z17 :: z18 :: z19 :: z20 :: z21 :: z22 :: z23 :: z24 :: z25 :: z26 :: z27 :: z28 :: z29 :: z30 :: z31 :: z32 :: z33 :: z34 :: z35 :: z36 :: z37 :: z38 :: z39 :: z40 :: z41 :: z42 :: z43 :: z44 :: z45 :: z46 :: z47 :: z48 :: z49 :: z50 :: z51 :: z52 :: z53 :: z54 :: z55 :: z56 :: z57 :: z58 :: z59 :: z60 :: z61 :: z62 :: z63 :: z64 :: (.agg (vals .u64 16 (F.dg p))) :: (.agg (vals .u64 16 (F.dg p))) :: (.agg (vals .u64 16 (F.dg (mm p p)))) :: zz), defers := [] }) (by kernel_rfl) ?_
  refine wpList_plain rfl (fun K hK => ?_)
  refine wp_store_row 47 _ _ rfl n14 (vals .u64 16 (F.dg (mm p p))) (by kernel_rfl) (by kernel_rfl) 47 _ Bn14 (size_rn _) (by simp only [vals_size]) (vals_one _ _ _) ?_
  have hS' := hS.new gn14 (vals .u64 16 (F.dg (mm p p)))
  refine hK _ _ ?_
  clear hK K
  have qgn14 : u.heap.size ≤ n14 := gn14
  have qBn14 : Blk (w3.setRow n14 (vals .u64 16 (F.dg (mm p p)))) n14 (vals .u64 16 (F.dg (mm p p))) 47 := (Bn14.row (vals .u64 16 (F.dg (mm p p))))
  clear hS gn14 Bn14
  have gn14 := qgn14
  have Bn14 := qBn14
  have hS := hS'
  clear hS' qgn14 qBn14
  refine wpList_fr (a' := { tmps := List.toArray (z0 :: z1 :: z2 :: z3 :: z4 :: z5 :: z6 :: z7 :: z8 :: z9 :: z10 :: z11 :: (.pointer (some ⟨b12, 0, none⟩)) :: z13 :: (.pointer (some ⟨n14, 0, none⟩)) :: z15 :: z16 :: z17 :: z18 :: z19 :: z20 :: z21 :: z22 :: z23 :: z24 :: z25 :: z26 :: z27 :: z28 :: z29 :: z30 :: z31 :: z32 :: z33 :: z34 :: z35 :: z36 :: z37 :: z38 :: z39 :: z40 :: z41 :: z42 :: z43 :: z44 :: z45 :: z46 :: z47 :: z48 :: z49 :: z50 :: z51 :: z52 :: z53 :: z54 :: z55 :: z56 :: z57 :: z58 :: z59 :: z60 :: z61 :: z62 :: z63 :: z64 :: (.agg (vals .u64 16 (F.dg p))) :: (.agg (vals .u64 16 (F.dg p))) :: (.agg (vals .u64 16 (F.dg (mm p p)))) :: zz), defers := [] }) (by kernel_rfl) ?_
  generalize (w3.setRow n14 (vals .u64 16 (F.dg (mm p p)))) = w4 at *
  refine wpList_nil ?_
  exact H n14 w4 hS gn14 Bn14
def rf19Op0 : Oper := { dst := some 68, op := Op.load 47 (Operand.tmp 13), type := 47, pos := "ref.go:25", after := #[], guard := none }
def rf19Op1 : Oper := { dst := some 69, op := Op.load 47 (Operand.tmp 13), type := 47, pos := "ref.go:25", after := #[], guard := none }
def rf19Op2 : Oper := { dst := some 70, op := Op.call { callee := Callee.value (Operand.func 32), args := #[Operand.tmp 68, Operand.tmp 69], argTypes := #[47, 47] }, type := 47, pos := "ref.go:25", after := #[{ on := 0, ground := Ground.data }, { on := 1, ground := Ground.data }], guard := none }
def rf19Op3 : Oper := { dst := some 15, op := Op.alloc 47, type := 0, pos := "ref.go:25", after := #[], guard := none }
def rf19Op4 : Oper := { dst := none, op := Op.store 47 (Operand.tmp 15) (Operand.tmp 70), type := 0, pos := "ref.go:25", after := #[{ on := 3, ground := Ground.data }, { on := 2, ground := Ground.data }, { on := 2, ground := Ground.chain }, { on := 0, ground := Ground.phase }, { on := 1, ground := Ground.phase }, { on := 2, ground := Ground.phase }, { on := 3, ground := Ground.phase }], guard := none }
def rf19Ops : Array Oper := #[rf19Op0, rf19Op1, rf19Op2, rf19Op3, rf19Op4]
set_option maxRecDepth 100000 in
set_option maxHeartbeats 2000000 in
theorem rf19_region (Q : Exit → Act → World → Prop) (hQ : ∀ c a w n v, Q (.panic c) (a.put (some n) v) w → Q (.panic c) a w) (u : World) (z0 z1 z2 z3 z4 z5 z6 z7 z8 z9 z10 z11 z12 z14 z15 z16 z17 z18 z19 z20 z21 z22 z23 z24 z25 z26 z27 z28 z29 z30 z31 z32 z33 z34 z35 z36 z37 z38 z39 z40 z41 z42 z43 z44 z45 z46 z47 z48 z49 z50 z51 z52 z53 z54 z55 z56 z57 z58 z59 z60 z61 z62 z63 z64 z65 z66 z67 z68 z69 z70 : Value) (zz : List Value) (b13 : Nat) (q : Nat) (hq : q < pP) (hb13 : Blk u b13 (vals .u64 16 (F.dg q)) 47) (nb13 : b13 ∉ ([] : List Nat)) (H : ∀ (n15 : Nat) (w : World), Kp [] u w → u.heap.size ≤ n15 → Blk w n15 (vals .u64 16 (F.dg (mm q q))) 47 → Q .normal { tmps := List.toArray (z0 :: z1 :: z2 :: z3 :: z4 :: z5 :: z6 :: z7 :: z8 :: z9 :: z10 :: z11 :: z12 :: (.pointer (some ⟨b13, 0, none⟩)) :: z14 :: (.pointer (some ⟨n15, 0, none⟩)) :: z16 :: z17 :: z18 :: z19 :: z20 :: z21 :: z22 :: z23 :: z24 :: z25 :: z26 :: z27 :: z28 :: z29 :: z30 :: z31 :: z32 :: z33 :: z34 :: z35 :: z36 :: z37 :: z38 :: z39 :: z40 :: z41 :: z42 :: z43 :: z44 :: z45 :: z46 :: z47 :: z48 :: z49 :: z50 :: z51 :: z52 :: z53 :: z54 :: z55 :: z56 :: z57 :: z58 :: z59 :: z60 :: z61 :: z62 :: z63 :: z64 :: z65 :: z66 :: z67 :: (.agg (vals .u64 16 (F.dg q))) :: (.agg (vals .u64 16 (F.dg q))) :: (.agg (vals .u64 16 (F.dg (mm q q)))) :: zz), defers := [] } w) :
    (Code.region 19 rf19Ops false).wp Try.prog Q { tmps := List.toArray (z0 :: z1 :: z2 :: z3 :: z4 :: z5 :: z6 :: z7 :: z8 :: z9 :: z10 :: z11 :: z12 :: (.pointer (some ⟨b13, 0, none⟩)) :: z14 :: z15 :: z16 :: z17 :: z18 :: z19 :: z20 :: z21 :: z22 :: z23 :: z24 :: z25 :: z26 :: z27 :: z28 :: z29 :: z30 :: z31 :: z32 :: z33 :: z34 :: z35 :: z36 :: z37 :: z38 :: z39 :: z40 :: z41 :: z42 :: z43 :: z44 :: z45 :: z46 :: z47 :: z48 :: z49 :: z50 :: z51 :: z52 :: z53 :: z54 :: z55 :: z56 :: z57 :: z58 :: z59 :: z60 :: z61 :: z62 :: z63 :: z64 :: z65 :: z66 :: z67 :: z68 :: z69 :: z70 :: zz), defers := [] } u := by
  have _ := hQ
  have _ := u
  have _ := z0
  have _ := z1
  have _ := z2
  have _ := z3
  have _ := z4
  have _ := z5
  have _ := z6
  have _ := z7
  have _ := z8
  have _ := z9
  have _ := z10
  have _ := z11
  have _ := z12
  have _ := z14
  have _ := z15
  have _ := z16
  have _ := z17
  have _ := z18
  have _ := z19
  have _ := z20
  have _ := z21
  have _ := z22
  have _ := z23
  have _ := z24
  have _ := z25
  have _ := z26
  have _ := z27
  have _ := z28
  have _ := z29
  have _ := z30
  have _ := z31
  have _ := z32
  have _ := z33
  have _ := z34
  have _ := z35
  have _ := z36
  have _ := z37
  have _ := z38
  have _ := z39
  have _ := z40
  have _ := z41
  have _ := z42
  have _ := z43
  have _ := z44
  have _ := z45
  have _ := z46
  have _ := z47
  have _ := z48
  have _ := z49
  have _ := z50
  have _ := z51
  have _ := z52
  have _ := z53
  have _ := z54
  have _ := z55
  have _ := z56
  have _ := z57
  have _ := z58
  have _ := z59
  have _ := z60
  have _ := z61
  have _ := z62
  have _ := z63
  have _ := z64
  have _ := z65
  have _ := z66
  have _ := z67
  have _ := z68
  have _ := z69
  have _ := z70
  have _ := zz
  have _ := b13
  have _ := q
  have _ := hq
  have _ := hb13
  have _ := nb13
  refine wp_region_list (show wpList _ rf19Ops _ [rf19Op0, rf19Op1, rf19Op2, rf19Op3, rf19Op4] _ _ from ?_)
  have hS : Kp [] u u := Kp.refl _ u
  refine wpList_plain rfl (fun K hK => ?_)
  refine wp_load_row 47 _ rfl b13 (by kernel_rfl) 47 _ (0, 0) _ (hS.keep _ _ _ nb13 hb13) Try.underlying47 rfl (size_rn _) ?_
  have hS' := hS
  refine hK _ _ ?_
  clear hK K
  clear hS
  have hS := hS'
  clear hS'
  refine wpList_fr (a' := { tmps := List.toArray (z0 :: z1 :: z2 :: z3 :: z4 :: z5 :: z6 :: z7 :: z8 :: z9 :: z10 :: z11 :: z12 :: (.pointer (some ⟨b13, 0, none⟩)) :: z14 :: z15 :: z16 :: z17 :: z18 :: z19 :: z20 :: z21 :: z22 :: z23 :: z24 :: z25 :: z26 :: z27 :: z28 :: z29 :: z30 :: z31 :: z32 :: z33 :: z34 :: z35 :: z36 :: z37 :: z38 :: z39 :: z40 :: z41 :: z42 :: z43 :: z44 :: z45 :: z46 :: z47 :: z48 :: z49 :: z50 :: z51 :: z52 :: z53 :: z54 :: z55 :: z56 :: z57 :: z58 :: z59 :: z60 :: z61 :: z62 :: z63 :: z64 :: z65 :: z66 :: z67 :: (.agg (vals .u64 16 (F.dg q))) :: z69 :: z70 :: zz), defers := [] }) (by kernel_rfl) ?_
  refine wpList_plain rfl (fun K hK => ?_)
  refine wp_load_row 47 _ rfl b13 (by kernel_rfl) 47 _ (0, 0) _ (hS.keep _ _ _ nb13 hb13) Try.underlying47 rfl (size_rn _) ?_
  have hS' := hS
  refine hK _ _ ?_
  clear hK K
  clear hS
  have hS := hS'
  clear hS'
  refine wpList_fr (a' := { tmps := List.toArray (z0 :: z1 :: z2 :: z3 :: z4 :: z5 :: z6 :: z7 :: z8 :: z9 :: z10 :: z11 :: z12 :: (.pointer (some ⟨b13, 0, none⟩)) :: z14 :: z15 :: z16 :: z17 :: z18 :: z19 :: z20 :: z21 :: z22 :: z23 :: z24 :: z25 :: z26 :: z27 :: z28 :: z29 :: z30 :: z31 :: z32 :: z33 :: z34 :: z35 :: z36 :: z37 :: z38 :: z39 :: z40 :: z41 :: z42 :: z43 :: z44 :: z45 :: z46 :: z47 :: z48 :: z49 :: z50 :: z51 :: z52 :: z53 :: z54 :: z55 :: z56 :: z57 :: z58 :: z59 :: z60 :: z61 :: z62 :: z63 :: z64 :: z65 :: z66 :: z67 :: (.agg (vals .u64 16 (F.dg q))) :: (.agg (vals .u64 16 (F.dg q))) :: z70 :: zz), defers := [] }) (by kernel_rfl) ?_
  refine wpList_plain rfl (fun K hK => ?_)
  refine wp_call_val 32 #[.agg (vals .u64 16 (F.dg q)), .agg (vals .u64 16 (F.dg q))] (by kernel_rfl) (.agg (vals .u64 16 (F.dg (mm q q)))) (rmul_c q q _ hq hq) ?_
  intro w2 hbw
  have hS' := hS.call hbw
  refine hK _ _ ?_
  clear hK K
  clear hS
  have hS := hS'
  clear hS'
  refine wpList_fr (a' := { tmps := List.toArray (z0 :: z1 :: z2 :: z3 :: z4 :: z5 :: z6 :: z7 :: z8 :: z9 :: z10 :: z11 :: z12 :: (.pointer (some ⟨b13, 0, none⟩)) :: z14 :: z15 :: z16 :: z17 :: z18 :: z19 :: z20 :: z21 :: z22 :: z23 :: z24 :: z25 :: z26 :: z27 :: z28 :: z29 :: z30 :: z31 :: z32 :: z33 :: z34 :: z35 :: z36 :: z37 :: z38 :: z39 :: z40 :: z41 :: z42 :: z43 :: z44 :: z45 :: z46 :: z47 :: z48 :: z49 :: z50 :: z51 :: z52 :: z53 :: z54 :: z55 :: z56 :: z57 :: z58 :: z59 :: z60 :: z61 :: z62 :: z63 :: z64 :: z65 :: z66 :: z67 :: (.agg (vals .u64 16 (F.dg q))) :: (.agg (vals .u64 16 (F.dg q))) :: (.agg (vals .u64 16 (F.dg (mm q q)))) :: zz), defers := [] }) (by kernel_rfl) ?_
  refine wpList_plain rfl (fun K hK => ?_)
  refine wp_new _ 47 (alloc_rn _ _ _ rfl) ?_
  intro n15 w3 eb Bn15 hbw
  have hS' := hS.call hbw
  refine hK _ _ ?_
  clear hK K
  have qgn15 : u.heap.size ≤ n15 := (by rw [eb]; exact hS.size)
  have qBn15 : Blk w3 n15 (vals .u64 16 (fun _ => 0)) 47 := Bn15
  clear hS
  have gn15 := qgn15
  have Bn15 := qBn15
  have hS := hS'
  clear hS' qgn15 qBn15
  refine wpList_fr (a' := { tmps := List.toArray (z0 :: z1 :: z2 :: z3 :: z4 :: z5 :: z6 :: z7 :: z8 :: z9 :: z10 :: z11 :: z12 :: (.pointer (some ⟨b13, 0, none⟩)) :: z14 :: (.pointer (some ⟨n15, 0, none⟩)) :: z16 :: z17 :: z18 :: z19 :: z20 :: z21 :: z22 :: z23 :: z24 :: z25 :: z26 :: z27 :: z28 :: z29 :: z30 :: z31 :: z32 :: z33 :: z34 :: z35 :: z36 :: z37 :: z38 :: z39 :: z40 :: z41 :: z42 :: z43 :: z44 :: z45 :: z46 :: z47 :: z48 :: z49 :: z50 :: z51 :: z52 :: z53 :: z54 :: z55 :: z56 :: z57 :: z58 :: z59 :: z60 :: z61 :: z62 :: z63 :: z64 :: z65 :: z66 :: z67 :: (.agg (vals .u64 16 (F.dg q))) :: (.agg (vals .u64 16 (F.dg q))) :: (.agg (vals .u64 16 (F.dg (mm q q)))) :: zz), defers := [] }) (by kernel_rfl) ?_
  refine wpList_plain rfl (fun K hK => ?_)
  refine wp_store_row 47 _ _ rfl n15 (vals .u64 16 (F.dg (mm q q))) (by kernel_rfl) (by kernel_rfl) 47 _ Bn15 (size_rn _) (by simp only [vals_size]) (vals_one _ _ _) ?_
  have hS' := hS.new gn15 (vals .u64 16 (F.dg (mm q q)))
  refine hK _ _ ?_
  clear hK K
  have qgn15 : u.heap.size ≤ n15 := gn15
  have qBn15 : Blk (w3.setRow n15 (vals .u64 16 (F.dg (mm q q)))) n15 (vals .u64 16 (F.dg (mm q q))) 47 := (Bn15.row (vals .u64 16 (F.dg (mm q q))))
  clear hS gn15 Bn15
  have gn15 := qgn15
  have Bn15 := qBn15
  have hS := hS'
  clear hS' qgn15 qBn15
  refine wpList_fr (a' := { tmps := List.toArray (z0 :: z1 :: z2 :: z3 :: z4 :: z5 :: z6 :: z7 :: z8 :: z9 :: z10 :: z11 :: z12 :: (.pointer (some ⟨b13, 0, none⟩)) :: z14 :: (.pointer (some ⟨n15, 0, none⟩)) :: z16 :: z17 :: z18 :: z19 :: z20 :: z21 :: z22 :: z23 :: z24 :: z25 :: z26 :: z27 :: z28 :: z29 :: z30 :: z31 :: z32 :: z33 :: z34 :: z35 :: z36 :: z37 :: z38 :: z39 :: z40 :: z41 :: z42 :: z43 :: z44 :: z45 :: z46 :: z47 :: z48 :: z49 :: z50 :: z51 :: z52 :: z53 :: z54 :: z55 :: z56 :: z57 :: z58 :: z59 :: z60 :: z61 :: z62 :: z63 :: z64 :: z65 :: z66 :: z67 :: (.agg (vals .u64 16 (F.dg q))) :: (.agg (vals .u64 16 (F.dg q))) :: (.agg (vals .u64 16 (F.dg (mm q q)))) :: zz), defers := [] }) (by kernel_rfl) ?_
  generalize (w3.setRow n15 (vals .u64 16 (F.dg (mm q q)))) = w4 at *
  refine wpList_nil ?_
  exact H n15 w4 hS gn15 Bn15
def rf20Op0 : Oper := { dst := some 71, op := Op.load 47 (Operand.tmp 14), type := 47, pos := "ref.go:26", after := #[], guard := none }
def rf20Op1 : Oper := { dst := some 72, op := Op.load 47 (Operand.tmp 15), type := 47, pos := "ref.go:26", after := #[], guard := none }
def rf20Op2 : Oper := { dst := some 73, op := Op.call { callee := Callee.value (Operand.func 31), args := #[Operand.tmp 71, Operand.tmp 72], argTypes := #[47, 47] }, type := 47, pos := "ref.go:26", after := #[{ on := 0, ground := Ground.data }, { on := 1, ground := Ground.data }], guard := none }
def rf20Op3 : Oper := { dst := some 16, op := Op.alloc 47, type := 0, pos := "ref.go:26", after := #[], guard := none }
def rf20Op4 : Oper := { dst := none, op := Op.store 47 (Operand.tmp 16) (Operand.tmp 73), type := 0, pos := "ref.go:26", after := #[{ on := 3, ground := Ground.data }, { on := 2, ground := Ground.data }, { on := 2, ground := Ground.chain }, { on := 0, ground := Ground.phase }, { on := 1, ground := Ground.phase }, { on := 2, ground := Ground.phase }, { on := 3, ground := Ground.phase }], guard := none }
def rf20Ops : Array Oper := #[rf20Op0, rf20Op1, rf20Op2, rf20Op3, rf20Op4]
set_option maxRecDepth 100000 in
set_option maxHeartbeats 2000000 in
theorem rf20_region (Q : Exit → Act → World → Prop) (hQ : ∀ c a w n v, Q (.panic c) (a.put (some n) v) w → Q (.panic c) a w) (u : World) (z0 z1 z2 z3 z4 z5 z6 z7 z8 z9 z10 z11 z12 z13 z16 z17 z18 z19 z20 z21 z22 z23 z24 z25 z26 z27 z28 z29 z30 z31 z32 z33 z34 z35 z36 z37 z38 z39 z40 z41 z42 z43 z44 z45 z46 z47 z48 z49 z50 z51 z52 z53 z54 z55 z56 z57 z58 z59 z60 z61 z62 z63 z64 z65 z66 z67 z68 z69 z70 z71 z72 z73 : Value) (zz : List Value) (b14 b15 : Nat) (s t : Nat) (hs : s < pP) (ht : t < pP) (hb14 : Blk u b14 (vals .u64 16 (F.dg s)) 47) (nb14 : b14 ∉ ([] : List Nat)) (hb15 : Blk u b15 (vals .u64 16 (F.dg t)) 47) (nb15 : b15 ∉ ([] : List Nat)) (H : ∀ (n16 : Nat) (w : World), Kp [] u w → u.heap.size ≤ n16 → Blk w n16 (vals .u64 16 (F.dg (sm s t))) 47 → Q .normal { tmps := List.toArray (z0 :: z1 :: z2 :: z3 :: z4 :: z5 :: z6 :: z7 :: z8 :: z9 :: z10 :: z11 :: z12 :: z13 :: (.pointer (some ⟨b14, 0, none⟩)) :: (.pointer (some ⟨b15, 0, none⟩)) :: (.pointer (some ⟨n16, 0, none⟩)) :: z17 :: z18 :: z19 :: z20 :: z21 :: z22 :: z23 :: z24 :: z25 :: z26 :: z27 :: z28 :: z29 :: z30 :: z31 :: z32 :: z33 :: z34 :: z35 :: z36 :: z37 :: z38 :: z39 :: z40 :: z41 :: z42 :: z43 :: z44 :: z45 :: z46 :: z47 :: z48 :: z49 :: z50 :: z51 :: z52 :: z53 :: z54 :: z55 :: z56 :: z57 :: z58 :: z59 :: z60 :: z61 :: z62 :: z63 :: z64 :: z65 :: z66 :: z67 :: z68 :: z69 :: z70 :: (.agg (vals .u64 16 (F.dg s))) :: (.agg (vals .u64 16 (F.dg t))) :: (.agg (vals .u64 16 (F.dg (sm s t)))) :: zz), defers := [] } w) :
    (Code.region 20 rf20Ops false).wp Try.prog Q { tmps := List.toArray (z0 :: z1 :: z2 :: z3 :: z4 :: z5 :: z6 :: z7 :: z8 :: z9 :: z10 :: z11 :: z12 :: z13 :: (.pointer (some ⟨b14, 0, none⟩)) :: (.pointer (some ⟨b15, 0, none⟩)) :: z16 :: z17 :: z18 :: z19 :: z20 :: z21 :: z22 :: z23 :: z24 :: z25 :: z26 :: z27 :: z28 :: z29 :: z30 :: z31 :: z32 :: z33 :: z34 :: z35 :: z36 :: z37 :: z38 :: z39 :: z40 :: z41 :: z42 :: z43 :: z44 :: z45 :: z46 :: z47 :: z48 :: z49 :: z50 :: z51 :: z52 :: z53 :: z54 :: z55 :: z56 :: z57 :: z58 :: z59 :: z60 :: z61 :: z62 :: z63 :: z64 :: z65 :: z66 :: z67 :: z68 :: z69 :: z70 :: z71 :: z72 :: z73 :: zz), defers := [] } u := by
  have _ := hQ
  have _ := u
  have _ := z0
  have _ := z1
  have _ := z2
  have _ := z3
  have _ := z4
  have _ := z5
  have _ := z6
  have _ := z7
  have _ := z8
  have _ := z9
  have _ := z10
  have _ := z11
  have _ := z12
  have _ := z13
  have _ := z16
  have _ := z17
  have _ := z18
  have _ := z19
  have _ := z20
  have _ := z21
  have _ := z22
  have _ := z23
  have _ := z24
  have _ := z25
  have _ := z26
  have _ := z27
  have _ := z28
  have _ := z29
  have _ := z30
  have _ := z31
  have _ := z32
  have _ := z33
  have _ := z34
  have _ := z35
  have _ := z36
  have _ := z37
  have _ := z38
  have _ := z39
  have _ := z40
  have _ := z41
  have _ := z42
  have _ := z43
  have _ := z44
  have _ := z45
  have _ := z46
  have _ := z47
  have _ := z48
  have _ := z49
  have _ := z50
  have _ := z51
  have _ := z52
  have _ := z53
  have _ := z54
  have _ := z55
  have _ := z56
  have _ := z57
  have _ := z58
  have _ := z59
  have _ := z60
  have _ := z61
  have _ := z62
  have _ := z63
  have _ := z64
  have _ := z65
  have _ := z66
  have _ := z67
  have _ := z68
  have _ := z69
  have _ := z70
  have _ := z71
  have _ := z72
  have _ := z73
  have _ := zz
  have _ := b14
  have _ := b15
  have _ := s
  have _ := t
  have _ := hs
  have _ := ht
  have _ := hb14
  have _ := nb14
  have _ := hb15
  have _ := nb15
  refine wp_region_list (show wpList _ rf20Ops _ [rf20Op0, rf20Op1, rf20Op2, rf20Op3, rf20Op4] _ _ from ?_)
  have hS : Kp [] u u := Kp.refl _ u
  refine wpList_plain rfl (fun K hK => ?_)
  refine wp_load_row 47 _ rfl b14 (by kernel_rfl) 47 _ (0, 0) _ (hS.keep _ _ _ nb14 hb14) Try.underlying47 rfl (size_rn _) ?_
  have hS' := hS
  refine hK _ _ ?_
  clear hK K
  clear hS
  have hS := hS'
  clear hS'
  refine wpList_fr (a' := { tmps := List.toArray (z0 :: z1 :: z2 :: z3 :: z4 :: z5 :: z6 :: z7 :: z8 :: z9 :: z10 :: z11 :: z12 :: z13 :: (.pointer (some ⟨b14, 0, none⟩)) :: (.pointer (some ⟨b15, 0, none⟩)) :: z16 :: z17 :: z18 :: z19 :: z20 :: z21 :: z22 :: z23 :: z24 :: z25 :: z26 :: z27 :: z28 :: z29 :: z30 :: z31 :: z32 :: z33 :: z34 :: z35 :: z36 :: z37 :: z38 :: z39 :: z40 :: z41 :: z42 :: z43 :: z44 :: z45 :: z46 :: z47 :: z48 :: z49 :: z50 :: z51 :: z52 :: z53 :: z54 :: z55 :: z56 :: z57 :: z58 :: z59 :: z60 :: z61 :: z62 :: z63 :: z64 :: z65 :: z66 :: z67 :: z68 :: z69 :: z70 :: (.agg (vals .u64 16 (F.dg s))) :: z72 :: z73 :: zz), defers := [] }) (by kernel_rfl) ?_
  refine wpList_plain rfl (fun K hK => ?_)
  refine wp_load_row 47 _ rfl b15 (by kernel_rfl) 47 _ (0, 0) _ (hS.keep _ _ _ nb15 hb15) Try.underlying47 rfl (size_rn _) ?_
  have hS' := hS
  refine hK _ _ ?_
  clear hK K
  clear hS
  have hS := hS'
  clear hS'
  refine wpList_fr (a' := { tmps := List.toArray (z0 :: z1 :: z2 :: z3 :: z4 :: z5 :: z6 :: z7 :: z8 :: z9 :: z10 :: z11 :: z12 :: z13 :: (.pointer (some ⟨b14, 0, none⟩)) :: (.pointer (some ⟨b15, 0, none⟩)) :: z16 :: z17 :: z18 :: z19 :: z20 :: z21 :: z22 :: z23 :: z24 :: z25 :: z26 :: z27 :: z28 :: z29 :: z30 :: z31 :: z32 :: z33 :: z34 :: z35 :: z36 :: z37 :: z38 :: z39 :: z40 :: z41 :: z42 :: z43 :: z44 :: z45 :: z46 :: z47 :: z48 :: z49 :: z50 :: z51 :: z52 :: z53 :: z54 :: z55 :: z56 :: z57 :: z58 :: z59 :: z60 :: z61 :: z62 :: z63 :: z64 :: z65 :: z66 :: z67 :: z68 :: z69 :: z70 :: (.agg (vals .u64 16 (F.dg s))) :: (.agg (vals .u64 16 (F.dg t))) :: z73 :: zz), defers := [] }) (by kernel_rfl) ?_
  refine wpList_plain rfl (fun K hK => ?_)
  refine wp_call_val 31 #[.agg (vals .u64 16 (F.dg s)), .agg (vals .u64 16 (F.dg t))] (by kernel_rfl) (.agg (vals .u64 16 (F.dg (sm s t)))) (rsub_c s t _ hs ht) ?_
  intro w2 hbw
  have hS' := hS.call hbw
  refine hK _ _ ?_
  clear hK K
  clear hS
  have hS := hS'
  clear hS'
  refine wpList_fr (a' := { tmps := List.toArray (z0 :: z1 :: z2 :: z3 :: z4 :: z5 :: z6 :: z7 :: z8 :: z9 :: z10 :: z11 :: z12 :: z13 :: (.pointer (some ⟨b14, 0, none⟩)) :: (.pointer (some ⟨b15, 0, none⟩)) :: z16 :: z17 :: z18 :: z19 :: z20 :: z21 :: z22 :: z23 :: z24 :: z25 :: z26 :: z27 :: z28 :: z29 :: z30 :: z31 :: z32 :: z33 :: z34 :: z35 :: z36 :: z37 :: z38 :: z39 :: z40 :: z41 :: z42 :: z43 :: z44 :: z45 :: z46 :: z47 :: z48 :: z49 :: z50 :: z51 :: z52 :: z53 :: z54 :: z55 :: z56 :: z57 :: z58 :: z59 :: z60 :: z61 :: z62 :: z63 :: z64 :: z65 :: z66 :: z67 :: z68 :: z69 :: z70 :: (.agg (vals .u64 16 (F.dg s))) :: (.agg (vals .u64 16 (F.dg t))) :: (.agg (vals .u64 16 (F.dg (sm s t)))) :: zz), defers := [] }) (by kernel_rfl) ?_
  refine wpList_plain rfl (fun K hK => ?_)
  refine wp_new _ 47 (alloc_rn _ _ _ rfl) ?_
  intro n16 w3 eb Bn16 hbw
  have hS' := hS.call hbw
  refine hK _ _ ?_
  clear hK K
  have qgn16 : u.heap.size ≤ n16 := (by rw [eb]; exact hS.size)
  have qBn16 : Blk w3 n16 (vals .u64 16 (fun _ => 0)) 47 := Bn16
  clear hS
  have gn16 := qgn16
  have Bn16 := qBn16
  have hS := hS'
  clear hS' qgn16 qBn16
  refine wpList_fr (a' := { tmps := List.toArray (z0 :: z1 :: z2 :: z3 :: z4 :: z5 :: z6 :: z7 :: z8 :: z9 :: z10 :: z11 :: z12 :: z13 :: (.pointer (some ⟨b14, 0, none⟩)) :: (.pointer (some ⟨b15, 0, none⟩)) :: (.pointer (some ⟨n16, 0, none⟩)) :: z17 :: z18 :: z19 :: z20 :: z21 :: z22 :: z23 :: z24 :: z25 :: z26 :: z27 :: z28 :: z29 :: z30 :: z31 :: z32 :: z33 :: z34 :: z35 :: z36 :: z37 :: z38 :: z39 :: z40 :: z41 :: z42 :: z43 :: z44 :: z45 :: z46 :: z47 :: z48 :: z49 :: z50 :: z51 :: z52 :: z53 :: z54 :: z55 :: z56 :: z57 :: z58 :: z59 :: z60 :: z61 :: z62 :: z63 :: z64 :: z65 :: z66 :: z67 :: z68 :: z69 :: z70 :: (.agg (vals .u64 16 (F.dg s))) :: (.agg (vals .u64 16 (F.dg t))) :: (.agg (vals .u64 16 (F.dg (sm s t)))) :: zz), defers := [] }) (by kernel_rfl) ?_
  refine wpList_plain rfl (fun K hK => ?_)
  refine wp_store_row 47 _ _ rfl n16 (vals .u64 16 (F.dg (sm s t))) (by kernel_rfl) (by kernel_rfl) 47 _ Bn16 (size_rn _) (by simp only [vals_size]) (vals_one _ _ _) ?_
  have hS' := hS.new gn16 (vals .u64 16 (F.dg (sm s t)))
  refine hK _ _ ?_
  clear hK K
  have qgn16 : u.heap.size ≤ n16 := gn16
  have qBn16 : Blk (w3.setRow n16 (vals .u64 16 (F.dg (sm s t)))) n16 (vals .u64 16 (F.dg (sm s t))) 47 := (Bn16.row (vals .u64 16 (F.dg (sm s t))))
  clear hS gn16 Bn16
  have gn16 := qgn16
  have Bn16 := qBn16
  have hS := hS'
  clear hS' qgn16 qBn16
  refine wpList_fr (a' := { tmps := List.toArray (z0 :: z1 :: z2 :: z3 :: z4 :: z5 :: z6 :: z7 :: z8 :: z9 :: z10 :: z11 :: z12 :: z13 :: (.pointer (some ⟨b14, 0, none⟩)) :: (.pointer (some ⟨b15, 0, none⟩)) :: (.pointer (some ⟨n16, 0, none⟩)) :: z17 :: z18 :: z19 :: z20 :: z21 :: z22 :: z23 :: z24 :: z25 :: z26 :: z27 :: z28 :: z29 :: z30 :: z31 :: z32 :: z33 :: z34 :: z35 :: z36 :: z37 :: z38 :: z39 :: z40 :: z41 :: z42 :: z43 :: z44 :: z45 :: z46 :: z47 :: z48 :: z49 :: z50 :: z51 :: z52 :: z53 :: z54 :: z55 :: z56 :: z57 :: z58 :: z59 :: z60 :: z61 :: z62 :: z63 :: z64 :: z65 :: z66 :: z67 :: z68 :: z69 :: z70 :: (.agg (vals .u64 16 (F.dg s))) :: (.agg (vals .u64 16 (F.dg t))) :: (.agg (vals .u64 16 (F.dg (sm s t)))) :: zz), defers := [] }) (by kernel_rfl) ?_
  generalize (w3.setRow n16 (vals .u64 16 (F.dg (sm s t)))) = w4 at *
  refine wpList_nil ?_
  exact H n16 w4 hS gn16 Bn16
end Go.Proofs.Ytidhffaphbiapaa

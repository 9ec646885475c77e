/- Walks: LadderZero. -/
import Derived.Test.YtidhffaphbiapaaPk
namespace Go.Proofs.Ytidhffaphbiapaa
open F Go.RowKit

def z3L : List Nat := [224, 235, 122, 124, 59, 65, 184, 174, 22, 86, 227, 250, 241, 159, 196, 106, 218, 9, 141, 235, 156, 50, 177, 253, 134, 98, 5, 22, 95, 73, 184, 0]
def z3B (i : Nat) : Nat := z3L.getD i 0
theorem z3B_lt (i : Nat) : z3B i < 256 := by
  unfold z3B
  by_cases h : i < 32
  · exact (by decide : ∀ j : Fin 32, z3L.getD j.val 0 < 256) ⟨i, h⟩
  · rw [List.getD_eq_getElem?_getD, List.getElem?_eq_none (by show 32 ≤ i; omega)]; decide
def z4L : List Nat := [95, 156, 149, 188, 163, 80, 140, 36, 177, 208, 177, 85, 156, 131, 239, 91, 4, 68, 92, 196, 88, 28, 142, 134, 216, 34, 78, 221, 208, 159, 17, 87]
def z4B (i : Nat) : Nat := z4L.getD i 0
theorem z4B_lt (i : Nat) : z4B i < 256 := by
  unfold z4B
  by_cases h : i < 32
  · exact (by decide : ∀ j : Fin 32, z4L.getD j.val 0 < 256) ⟨i, h⟩
  · rw [List.getD_eq_getElem?_getD, List.getElem?_eq_none (by show 32 ≤ i; omega)]; decide
theorem co_zero : co (fun _ => 0) = 0 := by decide +kernel
theorem co_one : co (oneB 1) = lit1 := by decide +kernel
theorem co_z3 : co z3B = lit3 := by decide +kernel
theorem co_z4 : co z4B = lit4 := by decide +kernel
theorem co_neg : co (byt (ng 1)) = lit2 := by rw [co_byt _ (ng_lt 1)]; decide +kernel
theorem rem5 (k : Nat) (h : k < 256) : (k : Int).tmod 5 = ((k % 5 : Nat) : Int) := by
  have := (by decide +kernel : ∀ i : Fin 256, (i.val : Int).tmod 5 = ((i.val % 5 : Nat) : Int)) ⟨k, h⟩
  exact this
def ze0Op0 : Oper := { dst := some 2, op := Op.box 22 (Operand.tmp 0), type := 0, pos := "law.go:53", after := #[], guard := none }
def ze0Op1 : Oper := { dst := some 4, op := Op.assign (Operand.const (Value.bool false)), type := 4, pos := "law.go:53", after := #[], guard := none }
def ze0Ops : Array Oper := #[ze0Op0, ze0Op1]
set_option maxRecDepth 100000 in
set_option maxHeartbeats 2000000 in
theorem ze0_region (Q : Exit → Act → World → Prop) (hQ : ∀ c a w n v, Q (.panic c) (a.put (some n) v) w → Q (.panic c) a w) (u : World) (z1 z2 z3 z4 : Value) (zz : List Value) (f : Nat → Nat) (H : ∀ (n2 : Nat) (w : World), Kp [] u w → u.heap.size ≤ n2 → Blk w n2 (vals .u8 32 f) 22 → Q .normal { tmps := List.toArray ((.agg (vals .u8 32 f)) :: z1 :: (.pointer (some ⟨n2, 0, none⟩)) :: z3 :: (.bool false) :: zz), defers := [] } w) :
    (Code.region 0 ze0Ops false).wp Try.prog Q { tmps := List.toArray ((.agg (vals .u8 32 f)) :: z1 :: z2 :: z3 :: z4 :: zz), defers := [] } u := by
  have _ := hQ
  have _ := u
  have _ := z1
  have _ := z2
  have _ := z3
  have _ := z4
  have _ := zz
  have _ := f
  refine wp_region_list (show wpList _ ze0Ops _ [ze0Op0, ze0Op1] _ _ from ?_)
  have hS : Kp [] u u := Kp.refl _ u
  refine wpList_plain rfl (fun K hK => ?_)
  refine wp_new _ 22 (box_by _ _ _ _ f rfl (by kernel_rfl)) ?_
  intro n2 w0 eb Bn2 hbw
  have hS' := hS.call hbw
  refine hK _ _ ?_
  clear hK K
  have qgn2 : u.heap.size ≤ n2 := (by rw [eb]; exact hS.size)
  have qBn2 : Blk w0 n2 (vals .u8 32 f) 22 := Bn2
  clear hS
  have gn2 := qgn2
  have Bn2 := qBn2
  have hS := hS'
  clear hS' qgn2 qBn2
  refine wpList_fr (a' := { tmps := List.toArray ((.agg (vals .u8 32 f)) :: z1 :: (.pointer (some ⟨n2, 0, none⟩)) :: z3 :: z4 :: zz), defers := [] }) (by kernel_rfl) ?_
  refine wpList_plain rfl (fun K hK => ?_)
  refine wp_val (.bool false) (by kernel_rfl) ?_
  have hS' := hS
  refine hK _ _ ?_
  clear hK K
  have qgn2 : u.heap.size ≤ n2 := gn2
  have qBn2 : Blk w0 n2 (vals .u8 32 f) 22 := Bn2
  clear hS gn2 Bn2
  have gn2 := qgn2
  have Bn2 := qBn2
  have hS := hS'
  clear hS' qgn2 qBn2
  refine wpList_fr (a' := { tmps := List.toArray ((.agg (vals .u8 32 f)) :: z1 :: (.pointer (some ⟨n2, 0, none⟩)) :: z3 :: (.bool false) :: zz), defers := [] }) (by kernel_rfl) ?_
  refine wpList_nil ?_
  exact H n2 w0 hS gn2 Bn2
def ze1Op0 : Oper := { dst := some 9, op := Op.call { callee := Callee.value (Operand.func 8), args := #[], argTypes := #[] }, type := 4, pos := "law.go:54", after := #[], guard := none }
def ze1Op1 : Oper := { dst := some 5, op := Op.assign (Operand.tmp 9), type := 4, pos := "law.go:54", after := #[{ on := 0, ground := Ground.data }, { on := 0, ground := Ground.chain }, { on := 0, ground := Ground.phase }], guard := none }
def ze1Ops : Array Oper := #[ze1Op0, ze1Op1]
set_option maxRecDepth 100000 in
set_option maxHeartbeats 2000000 in
theorem ze1_region (Q : Exit → Act → World → Prop) (hQ : ∀ c a w n v, Q (.panic c) (a.put (some n) v) w → Q (.panic c) a w) (u : World) (z0 z1 z2 z3 z4 z5 z6 z7 z8 z9 : Value) (zz : List Value) (H : ∀ (w : World), Kp [] u w → Q .normal { tmps := List.toArray (z0 :: z1 :: z2 :: z3 :: z4 :: (.bool true) :: z6 :: z7 :: z8 :: (.bool true) :: zz), defers := [] } w) :
    (Code.region 1 ze1Ops false).wp Try.prog Q { tmps := List.toArray (z0 :: z1 :: z2 :: z3 :: z4 :: z5 :: z6 :: z7 :: z8 :: z9 :: zz), defers := [] } u := by
  have _ := hQ
  have _ := u
  have _ := z0
  have _ := z1
  have _ := z2
  have _ := z3
  have _ := z4
  have _ := z5
  have _ := z6
  have _ := z7
  have _ := z8
  have _ := z9
  have _ := zz
  refine wp_region_list (show wpList _ ze1Ops _ [ze1Op0, ze1Op1] _ _ from ?_)
  have hS : Kp [] u u := Kp.refl _ u
  refine wpList_plain rfl (fun K hK => ?_)
  refine wp_call_val 8 #[] (by kernel_rfl) (.bool true) (awake_c _) ?_
  intro w0 hbw
  have hS' := hS.call hbw
  refine hK _ _ ?_
  clear hK K
  clear hS
  have hS := hS'
  clear hS'
  refine wpList_fr (a' := { tmps := List.toArray (z0 :: z1 :: z2 :: z3 :: z4 :: z5 :: z6 :: z7 :: z8 :: (.bool true) :: zz), defers := [] }) (by kernel_rfl) ?_
  refine wpList_plain rfl (fun K hK => ?_)
  refine wp_val (.bool true) (by kernel_rfl) ?_
  have hS' := hS
  refine hK _ _ ?_
  clear hK K
  clear hS
  have hS := hS'
  clear hS'
  refine wpList_fr (a' := { tmps := List.toArray (z0 :: z1 :: z2 :: z3 :: z4 :: (.bool true) :: z6 :: z7 :: z8 :: (.bool true) :: zz), defers := [] }) (by kernel_rfl) ?_
  refine wpList_nil ?_
  exact H  w0 hS 
def ze2Op0 : Oper := { dst := some 10, op := Op.build 22 #[], type := 22, pos := "law.go:55", after := #[], guard := none }
def ze2Op1 : Oper := { dst := some 6, op := Op.alloc 22, type := 0, pos := "law.go:55", after := #[], guard := none }
def ze2Op2 : Oper := { dst := none, op := Op.store 22 (Operand.tmp 6) (Operand.tmp 10), type := 0, pos := "law.go:55", after := #[{ on := 1, ground := Ground.data }, { on := 0, ground := Ground.data }, { on := 0, ground := Ground.phase }, { on := 1, ground := Ground.phase }], guard := none }
def ze2Ops : Array Oper := #[ze2Op0, ze2Op1, ze2Op2]
set_option maxRecDepth 100000 in
set_option maxHeartbeats 2000000 in
theorem ze2_region (Q : Exit → Act → World → Prop) (hQ : ∀ c a w n v, Q (.panic c) (a.put (some n) v) w → Q (.panic c) a w) (u : World) (z0 z1 z2 z3 z4 z5 z6 z7 z8 z9 z10 : Value) (zz : List Value) (H : ∀ (n6 : Nat) (w : World), Kp [] u w → u.heap.size ≤ n6 → Blk w n6 (vals .u8 32 (fun _ => 0)) 22 → Q .normal { tmps := List.toArray (z0 :: z1 :: z2 :: z3 :: z4 :: z5 :: (.pointer (some ⟨n6, 0, none⟩)) :: z7 :: z8 :: z9 :: (.agg (vals .u8 32 (fun _ => 0))) :: zz), defers := [] } w) :
    (Code.region 2 ze2Ops false).wp Try.prog Q { tmps := List.toArray (z0 :: z1 :: z2 :: z3 :: z4 :: z5 :: z6 :: z7 :: z8 :: z9 :: z10 :: zz), defers := [] } u := by
  have _ := hQ
  have _ := u
  have _ := z0
  have _ := z1
  have _ := z2
  have _ := z3
  have _ := z4
  have _ := z5
  have _ := z6
  have _ := z7
  have _ := z8
  have _ := z9
  have _ := z10
  have _ := zz
  refine wp_region_list (show wpList _ ze2Ops _ [ze2Op0, ze2Op1, ze2Op2] _ _ from ?_)
  have hS : Kp [] u u := Kp.refl _ u
  refine wpList_plain rfl (fun K hK => ?_)
  refine wp_val (.agg (vals .u8 32 (fun _ => 0))) (by kernel_rfl) ?_
  have hS' := hS
  refine hK _ _ ?_
  clear hK K
  clear hS
  have hS := hS'
  clear hS'
  refine wpList_fr (a' := { tmps := List.toArray (z0 :: z1 :: z2 :: z3 :: z4 :: z5 :: z6 :: z7 :: z8 :: z9 :: (.agg (vals .u8 32 (fun _ => 0))) :: zz), defers := [] }) (by kernel_rfl) ?_
  refine wpList_plain rfl (fun K hK => ?_)
  refine wp_new _ 22 (alloc_by _ _ _ rfl) ?_
  intro n6 w1 eb Bn6 hbw
  have hS' := hS.call hbw
  refine hK _ _ ?_
  clear hK K
  have qgn6 : u.heap.size ≤ n6 := (by rw [eb]; exact hS.size)
  have qBn6 : Blk w1 n6 (vals .u8 32 (fun _ => 0)) 22 := Bn6
  clear hS
  have gn6 := qgn6
  have Bn6 := qBn6
  have hS := hS'
  clear hS' qgn6 qBn6
  refine wpList_fr (a' := { tmps := List.toArray (z0 :: z1 :: z2 :: z3 :: z4 :: z5 :: (.pointer (some ⟨n6, 0, none⟩)) :: z7 :: z8 :: z9 :: (.agg (vals .u8 32 (fun _ => 0))) :: zz), defers := [] }) (by kernel_rfl) ?_
  refine wpList_plain rfl (fun K hK => ?_)
  refine wp_store_row 22 _ _ rfl n6 (vals .u8 32 (fun _ => 0)) (by kernel_rfl) (by kernel_rfl) 22 _ Bn6 (size_by _) (by simp only [vals_size]) (vals_one _ _ _) ?_
  have hS' := hS.new gn6 (vals .u8 32 (fun _ => 0))
  refine hK _ _ ?_
  clear hK K
  have qgn6 : u.heap.size ≤ n6 := gn6
  have qBn6 : Blk (w1.setRow n6 (vals .u8 32 (fun _ => 0))) n6 (vals .u8 32 (fun _ => 0)) 22 := (Bn6.row (vals .u8 32 (fun _ => 0)))
  clear hS gn6 Bn6
  have gn6 := qgn6
  have Bn6 := qBn6
  have hS := hS'
  clear hS' qgn6 qBn6
  refine wpList_fr (a' := { tmps := List.toArray (z0 :: z1 :: z2 :: z3 :: z4 :: z5 :: (.pointer (some ⟨n6, 0, none⟩)) :: z7 :: z8 :: z9 :: (.agg (vals .u8 32 (fun _ => 0))) :: zz), defers := [] }) (by kernel_rfl) ?_
  generalize (w1.setRow n6 (vals .u8 32 (fun _ => 0))) = w2 at *
  refine wpList_nil ?_
  exact H n6 w2 hS gn6 Bn6
def ze3Op0 : Oper := { dst := some 11, op := Op.move (Operand.tmp 1), type := 5, pos := "law.go:56", after := #[], guard := none }
def ze3Op1 : Oper := { dst := some 12, op := Op.binOp BinOp.rem 5 (Operand.tmp 11) (Operand.const (Value.int IntKind.u8 5)) 5, type := 5, pos := "law.go:56", after := #[{ on := 0, ground := Ground.data }], guard := none }
def ze3Ops : Array Oper := #[ze3Op0, ze3Op1]
set_option maxRecDepth 100000 in
set_option maxHeartbeats 2000000 in
theorem ze3_region (Q : Exit → Act → World → Prop) (hQ : ∀ c a w n v, Q (.panic c) (a.put (some n) v) w → Q (.panic c) a w) (u : World) (z0 z2 z3 z4 z5 z6 z7 z8 z9 z10 z11 z12 : Value) (zz : List Value) (k v : Nat) (kv : (k : Int).tmod 5 = ((v : Nat) : Int)) (H : ∀ (w : World), Kp [] u w → Q .normal { tmps := List.toArray (z0 :: (.int .u8 ((k : Nat) : Int)) :: z2 :: z3 :: z4 :: z5 :: z6 :: z7 :: z8 :: z9 :: z10 :: (.int .u8 ((k : Nat) : Int)) :: (.int .u8 ((v : Nat) : Int)) :: zz), defers := [] } w) :
    (Code.region 3 ze3Ops false).wp Try.prog Q { tmps := List.toArray (z0 :: (.int .u8 ((k : Nat) : Int)) :: z2 :: z3 :: z4 :: z5 :: z6 :: z7 :: z8 :: z9 :: z10 :: z11 :: z12 :: zz), defers := [] } u := by
  have _ := hQ
  have _ := u
  have _ := z0
  have _ := z2
  have _ := z3
  have _ := z4
  have _ := z5
  have _ := z6
  have _ := z7
  have _ := z8
  have _ := z9
  have _ := z10
  have _ := z11
  have _ := z12
  have _ := zz
  have _ := k
  have _ := v
  have _ := kv
  refine wp_region_list (show wpList _ ze3Ops _ [ze3Op0, ze3Op1] _ _ from ?_)
  have hS : Kp [] u u := Kp.refl _ u
  refine wpList_plain rfl (fun K hK => ?_)
  refine wp_val (.int .u8 ((k : Nat) : Int)) (by kernel_rfl) ?_
  have hS' := hS
  refine hK _ _ ?_
  clear hK K
  clear hS
  have hS := hS'
  clear hS'
  refine wpList_fr (a' := { tmps := List.toArray (z0 :: (.int .u8 ((k : Nat) : Int)) :: z2 :: z3 :: z4 :: z5 :: z6 :: z7 :: z8 :: z9 :: z10 :: (.int .u8 ((k : Nat) : Int)) :: z12 :: zz), defers := [] }) (by kernel_rfl) ?_
  refine wpList_plain rfl (fun K hK => ?_)
  refine wp_val (.int .u8 ((v : Nat) : Int)) (by rw [← kv]; kernel_rfl) ?_
  have hS' := hS
  refine hK _ _ ?_
  clear hK K
  clear hS
  have hS := hS'
  clear hS'
  refine wpList_fr (a' := { tmps := List.toArray (z0 :: (.int .u8 ((k : Nat) : Int)) :: z2 :: z3 :: z4 :: z5 :: z6 :: z7 :: z8 :: z9 :: z10 :: (.int .u8 ((k : Nat) : Int)) :: (.int .u8 ((v : Nat) : Int)) :: zz), defers := [] }) (by kernel_rfl) ?_
  refine wpList_nil ?_
  exact H  u hS 
def ze5Op0 : Oper := { dst := some 15, op := Op.indexAddr 22 (Operand.tmp 6) (Operand.const (Value.int IntKind.i64 0)), type := 0, pos := "law.go:58", after := #[], guard := none }
def ze5Op1 : Oper := { dst := none, op := Op.store 5 (Operand.tmp 15) (Operand.const (Value.int IntKind.u8 1)), type := 0, pos := "law.go:58", after := #[{ on := 0, ground := Ground.data }], guard := none }
def ze5Ops : Array Oper := #[ze5Op0, ze5Op1]
set_option maxRecDepth 100000 in
set_option maxHeartbeats 2000000 in
theorem ze5_region (Q : Exit → Act → World → Prop) (hQ : ∀ c a w n v, Q (.panic c) (a.put (some n) v) w → Q (.panic c) a w) (u : World) (z0 z1 z2 z3 z4 z5 z7 z8 z9 z10 z11 z12 z13 z14 z15 : Value) (zz : List Value) (b6 : Nat) (g : Nat → Nat) (hb6 : Blk u b6 (vals .u8 32 g) 22) (H : ∀ (w : World), Kp [b6] u w → Blk w b6 (vals .u8 32 (fun j => if j = 0 then 1 else g j)) 22 → Q .normal { tmps := List.toArray (z0 :: z1 :: z2 :: z3 :: z4 :: z5 :: (.pointer (some ⟨b6, 0, none⟩)) :: z7 :: z8 :: z9 :: z10 :: z11 :: z12 :: z13 :: z14 :: (.pointer (some ⟨b6, 0, none⟩)) :: zz), defers := [] } w) :
    (Code.region 5 ze5Ops false).wp Try.prog Q { tmps := List.toArray (z0 :: z1 :: z2 :: z3 :: z4 :: z5 :: (.pointer (some ⟨b6, 0, none⟩)) :: z7 :: z8 :: z9 :: z10 :: z11 :: z12 :: z13 :: z14 :: z15 :: zz), defers := [] } u := by
  have _ := hQ
  have _ := u
  have _ := z0
  have _ := z1
  have _ := z2
  have _ := z3
  have _ := z4
  have _ := z5
  have _ := z7
  have _ := z8
  have _ := z9
  have _ := z10
  have _ := z11
  have _ := z12
  have _ := z13
  have _ := z14
  have _ := z15
  have _ := zz
  have _ := b6
  have _ := g
  have _ := hb6
  refine wp_region_list (show wpList _ ze5Ops _ [ze5Op0, ze5Op1] _ _ from ?_)
  have hS : Kp [b6] u u := Kp.refl _ u
  have Bb6 := hb6
  refine wpList_plain rfl (fun K hK => ?_)
  refine wp_val (.pointer (some ⟨b6, 0, none⟩)) (by kernel_rfl) ?_
  have hS' := hS
  refine hK _ _ ?_
  clear hK K
  have qBb6 : Blk u b6 (vals .u8 32 g) 22 := Bb6
  clear hS Bb6
  have Bb6 := qBb6
  have hS := hS'
  clear hS' qBb6
  refine wpList_fr (a' := { tmps := List.toArray (z0 :: z1 :: z2 :: z3 :: z4 :: z5 :: (.pointer (some ⟨b6, 0, none⟩)) :: z7 :: z8 :: z9 :: z10 :: z11 :: z12 :: z13 :: z14 :: (.pointer (some ⟨b6, 0, none⟩)) :: zz), defers := [] }) (by kernel_rfl) ?_
  refine wpList_plain rfl (fun K hK => ?_)
  refine st8 _ _ rfl b6 0 (by kernel_rfl) g (1) (by kernel_rfl) Bb6 (by omega) ?_
  intro w1 Bq hkw
  have hS' := hS.trans hkw (Z := [b6]) (fun _ h => h) (by simp)
  refine hK _ _ ?_
  clear hK K
  have qBb6 : Blk w1 b6 (vals .u8 32 (fun j => if j = 0 then 1 else g j)) 22 := Bq
  clear hS Bb6
  have Bb6 := qBb6
  have hS := hS'
  clear hS' qBb6
  refine wpList_fr (a' := { tmps := List.toArray (z0 :: z1 :: z2 :: z3 :: z4 :: z5 :: (.pointer (some ⟨b6, 0, none⟩)) :: z7 :: z8 :: z9 :: z10 :: z11 :: z12 :: z13 :: z14 :: (.pointer (some ⟨b6, 0, none⟩)) :: zz), defers := [] }) (by kernel_rfl) ?_
  refine wpList_nil ?_
  exact H  w1 hS Bb6
def ze7Op0 : Oper := { dst := some 18, op := Op.build 22 #[(0, Operand.const (Value.int IntKind.u8 1))], type := 22, pos := "law.go:60", after := #[], guard := none }
def ze7Op1 : Oper := { dst := some 19, op := Op.call { callee := Callee.value (Operand.func 13), args := #[Operand.tmp 18], argTypes := #[22] }, type := 32, pos := "law.go:60", after := #[{ on := 0, ground := Ground.data }], guard := none }
def ze7Op2 : Oper := { dst := some 20, op := Op.call { callee := Callee.value (Operand.func 15), args := #[Operand.tmp 19], argTypes := #[32] }, type := 32, pos := "law.go:60", after := #[{ on := 1, ground := Ground.data }, { on := 1, ground := Ground.chain }], guard := none }
def ze7Op3 : Oper := { dst := some 21, op := Op.call { callee := Callee.value (Operand.func 14), args := #[Operand.tmp 20], argTypes := #[32] }, type := 22, pos := "law.go:60", after := #[{ on := 2, ground := Ground.data }, { on := 2, ground := Ground.chain }], guard := none }
def ze7Op4 : Oper := { dst := none, op := Op.store 22 (Operand.tmp 6) (Operand.tmp 21), type := 0, pos := "law.go:60", after := #[{ on := 3, ground := Ground.data }, { on := 3, ground := Ground.chain }, { on := 0, ground := Ground.phase }, { on := 1, ground := Ground.phase }, { on := 2, ground := Ground.phase }, { on := 3, ground := Ground.phase }], guard := none }
def ze7Ops : Array Oper := #[ze7Op0, ze7Op1, ze7Op2, ze7Op3, ze7Op4]
set_option maxRecDepth 100000 in
set_option maxHeartbeats 2000000 in
theorem ze7_region (Q : Exit → Act → World → Prop) (hQ : ∀ c a w n v, Q (.panic c) (a.put (some n) v) w → Q (.panic c) a w) (u : World) (z0 z1 z2 z3 z4 z5 z7 z8 z9 z10 z11 z12 z13 z14 z15 z16 z17 z18 z19 z20 z21 : Value) (zz : List Value) (b6 : Nat) (hb6 : Blk u b6 (vals .u8 32 (fun _ => 0)) 22) (H : ∀ (w : World), Kp [b6] u w → Blk w b6 (vals .u8 32 (byt (ng 1))) 22 → Q .normal { tmps := List.toArray (z0 :: z1 :: z2 :: z3 :: z4 :: z5 :: (.pointer (some ⟨b6, 0, none⟩)) :: z7 :: z8 :: z9 :: z10 :: z11 :: z12 :: z13 :: z14 :: z15 :: z16 :: z17 :: (.agg (vals .u8 32 (oneB 1))) :: (.agg (arr 4 (limb 1))) :: (.agg (arr 4 (limb (ng 1)))) :: (.agg (vals .u8 32 (byt (ng 1)))) :: zz), defers := [] } w) :
    (Code.region 7 ze7Ops false).wp Try.prog Q { tmps := List.toArray (z0 :: z1 :: z2 :: z3 :: z4 :: z5 :: (.pointer (some ⟨b6, 0, none⟩)) :: z7 :: z8 :: z9 :: z10 :: z11 :: z12 :: z13 :: z14 :: z15 :: z16 :: z17 :: z18 :: z19 :: z20 :: z21 :: zz), defers := [] } u := by
  have _ := hQ
  have _ := u
  have _ := z0
  have _ := z1
  have _ := z2
  have _ := z3
  have _ := z4
  have _ := z5
  have _ := z7
  have _ := z8
  have _ := z9
  have _ := z10
  have _ := z11
  have _ := z12
  have _ := z13
  have _ := z14
  have _ := z15
  have _ := z16
  have _ := z17
  have _ := z18
  have _ := z19
  have _ := z20
  have _ := z21
  have _ := zz
  have _ := b6
  have _ := hb6
  refine wp_region_list (show wpList _ ze7Ops _ [ze7Op0, ze7Op1, ze7Op2, ze7Op3, ze7Op4] _ _ from ?_)
  have hS : Kp [b6] u u := Kp.refl _ u
  have Bb6 := hb6
  refine wpList_plain rfl (fun K hK => ?_)
  refine wp_val (.agg (vals .u8 32 (oneB 1))) (by kernel_rfl) ?_
  have hS' := hS
  refine hK _ _ ?_
  clear hK K
  have qBb6 : Blk u b6 (vals .u8 32 (fun _ => 0)) 22 := Bb6
  clear hS Bb6
  have Bb6 := qBb6
  have hS := hS'
  clear hS' qBb6
  refine wpList_fr (a' := { tmps := List.toArray (z0 :: z1 :: z2 :: z3 :: z4 :: z5 :: (.pointer (some ⟨b6, 0, none⟩)) :: z7 :: z8 :: z9 :: z10 :: z11 :: z12 :: z13 :: z14 :: z15 :: z16 :: z17 :: (.agg (vals .u8 32 (oneB 1))) :: z19 :: z20 :: z21 :: zz), defers := [] }) (by kernel_rfl) ?_
  refine wpList_plain rfl (fun K hK => ?_)
  refine wp_call_val 13 #[.agg (vals .u8 32 (oneB 1))] (by kernel_rfl) (.agg (arr 4 (limb 1))) (one_c _) ?_
  intro w1 hbw
  have hS' := hS.call hbw
  refine hK _ _ ?_
  clear hK K
  have qBb6 : Blk w1 b6 (vals .u8 32 (fun _ => 0)) 22 := (Bb6.call hbw)
  clear hS Bb6
  have Bb6 := qBb6
  have hS := hS'
  clear hS' qBb6
  refine wpList_fr (a' := { tmps := List.toArray (z0 :: z1 :: z2 :: z3 :: z4 :: z5 :: (.pointer (some ⟨b6, 0, none⟩)) :: z7 :: z8 :: z9 :: z10 :: z11 :: z12 :: z13 :: z14 :: z15 :: z16 :: z17 :: (.agg (vals .u8 32 (oneB 1))) :: (.agg (arr 4 (limb 1))) :: z20 :: z21 :: zz), defers := [] }) (by kernel_rfl) ?_
  refine wpList_plain rfl (fun K hK => ?_)
  refine wp_call_val 15 #[.agg (arr 4 (limb 1))] (by kernel_rfl) (.agg (arr 4 (limb (ng 1)))) (neg_c 1 _ one_lt) ?_
  intro w2 hbw
  have hS' := hS.call hbw
  refine hK _ _ ?_
  clear hK K
  have qBb6 : Blk w2 b6 (vals .u8 32 (fun _ => 0)) 22 := (Bb6.call hbw)
  clear hS Bb6
  have Bb6 := qBb6
  have hS := hS'
  clear hS' qBb6
  refine wpList_fr (a' := { tmps := List.toArray (z0 :: z1 :: z2 :: z3 :: z4 :: z5 :: (.pointer (some ⟨b6, 0, none⟩)) :: z7 :: z8 :: z9 :: z10 :: z11 :: z12 :: z13 :: z14 :: z15 :: z16 :: z17 :: (.agg (vals .u8 32 (oneB 1))) :: (.agg (arr 4 (limb 1))) :: (.agg (arr 4 (limb (ng 1)))) :: z21 :: zz), defers := [] }) (by kernel_rfl) ?_
  refine wpList_plain rfl (fun K hK => ?_)
  refine wp_call_val 14 #[.agg (arr 4 (limb (ng 1)))] (by kernel_rfl) (.agg (vals .u8 32 (byt (ng 1)))) (bytes_c (ng 1) _) ?_
  intro w3 hbw
  have hS' := hS.call hbw
  refine hK _ _ ?_
  clear hK K
  have qBb6 : Blk w3 b6 (vals .u8 32 (fun _ => 0)) 22 := (Bb6.call hbw)
  clear hS Bb6
  have Bb6 := qBb6
  have hS := hS'
  clear hS' qBb6
  refine wpList_fr (a' := { tmps := List.toArray (z0 :: z1 :: z2 :: z3 :: z4 :: z5 :: (.pointer (some ⟨b6, 0, none⟩)) :: z7 :: z8 :: z9 :: z10 :: z11 :: z12 :: z13 :: z14 :: z15 :: z16 :: z17 :: (.agg (vals .u8 32 (oneB 1))) :: (.agg (arr 4 (limb 1))) :: (.agg (arr 4 (limb (ng 1)))) :: (.agg (vals .u8 32 (byt (ng 1)))) :: zz), defers := [] }) (by kernel_rfl) ?_
  refine wpList_plain rfl (fun K hK => ?_)
  refine wp_store_row 22 _ _ rfl b6 (vals .u8 32 (byt (ng 1))) (by kernel_rfl) (by kernel_rfl) 22 _ Bb6 (size_by _) (by simp only [vals_size]) (vals_one _ _ _) ?_
  have hS' := hS.old (x := b6) (by simp) (vals .u8 32 (byt (ng 1)))
  refine hK _ _ ?_
  clear hK K
  have qBb6 : Blk (w3.setRow b6 (vals .u8 32 (byt (ng 1)))) b6 (vals .u8 32 (byt (ng 1))) 22 := (Bb6.row (vals .u8 32 (byt (ng 1))))
  clear hS Bb6
  have Bb6 := qBb6
  have hS := hS'
  clear hS' qBb6
  refine wpList_fr (a' := { tmps := List.toArray (z0 :: z1 :: z2 :: z3 :: z4 :: z5 :: (.pointer (some ⟨b6, 0, none⟩)) :: z7 :: z8 :: z9 :: z10 :: z11 :: z12 :: z13 :: z14 :: z15 :: z16 :: z17 :: (.agg (vals .u8 32 (oneB 1))) :: (.agg (arr 4 (limb 1))) :: (.agg (arr 4 (limb (ng 1)))) :: (.agg (vals .u8 32 (byt (ng 1)))) :: zz), defers := [] }) (by kernel_rfl) ?_
  generalize (w3.setRow b6 (vals .u8 32 (byt (ng 1)))) = w4 at *
  refine wpList_nil ?_
  exact H  w4 hS Bb6
def ze9Op0 : Oper := { dst := some 24, op := Op.build 22 #[(0, Operand.const (Value.int IntKind.u8 224)), (1, Operand.const (Value.int IntKind.u8 235)), (2, Operand.const (Value.int IntKind.u8 122)), (3, Operand.const (Value.int IntKind.u8 124)), (4, Operand.const (Value.int IntKind.u8 59)), (5, Operand.const (Value.int IntKind.u8 65)), (6, Operand.const (Value.int IntKind.u8 184)), (7, Operand.const (Value.int IntKind.u8 174)), (8, Operand.const (Value.int IntKind.u8 22)), (9, Operand.const (Value.int IntKind.u8 86)), (10, Operand.const (Value.int IntKind.u8 227)), (11, Operand.const (Value.int IntKind.u8 250)), (12, Operand.const (Value.int IntKind.u8 241)), (13, Operand.const (Value.int IntKind.u8 159)), (14, Operand.const (Value.int IntKind.u8 196)), (15, Operand.const (Value.int IntKind.u8 106)), (16, Operand.const (Value.int IntKind.u8 218)), (17, Operand.const (Value.int IntKind.u8 9)), (18, Operand.const (Value.int IntKind.u8 141)), (19, Operand.const (Value.int IntKind.u8 235)), (20, Operand.const (Value.int IntKind.u8 156)), (21, Operand.const (Value.int IntKind.u8 50)), (22, Operand.const (Value.int IntKind.u8 177)), (23, Operand.const (Value.int IntKind.u8 253)), (24, Operand.const (Value.int IntKind.u8 134)), (25, Operand.const (Value.int IntKind.u8 98)), (26, Operand.const (Value.int IntKind.u8 5)), (27, Operand.const (Value.int IntKind.u8 22)), (28, Operand.const (Value.int IntKind.u8 95)), (29, Operand.const (Value.int IntKind.u8 73)), (30, Operand.const (Value.int IntKind.u8 184)), (31, Operand.const (Value.int IntKind.u8 0))], type := 22, pos := "law.go:62", after := #[], guard := none }
def ze9Op1 : Oper := { dst := none, op := Op.store 22 (Operand.tmp 6) (Operand.tmp 24), type := 0, pos := "law.go:62", after := #[{ on := 0, ground := Ground.data }, { on := 0, ground := Ground.phase }], guard := none }
def ze9Ops : Array Oper := #[ze9Op0, ze9Op1]
set_option maxRecDepth 100000 in
set_option maxHeartbeats 2000000 in
theorem ze9_region (Q : Exit → Act → World → Prop) (hQ : ∀ c a w n v, Q (.panic c) (a.put (some n) v) w → Q (.panic c) a w) (u : World) (z0 z1 z2 z3 z4 z5 z7 z8 z9 z10 z11 z12 z13 z14 z15 z16 z17 z18 z19 z20 z21 z22 z23 z24 : Value) (zz : List Value) (b6 : Nat) (hb6 : Blk u b6 (vals .u8 32 (fun _ => 0)) 22) (H : ∀ (w : World), Kp [b6] u w → Blk w b6 (vals .u8 32 z3B) 22 → Q .normal { tmps := List.toArray (z0 :: z1 :: z2 :: z3 :: z4 :: z5 :: (.pointer (some ⟨b6, 0, none⟩)) :: z7 :: z8 :: z9 :: z10 :: z11 :: z12 :: z13 :: z14 :: z15 :: z16 :: z17 :: z18 :: z19 :: z20 :: z21 :: z22 :: z23 :: (.agg (vals .u8 32 z3B)) :: zz), defers := [] } w) :
    (Code.region 9 ze9Ops false).wp Try.prog Q { tmps := List.toArray (z0 :: z1 :: z2 :: z3 :: z4 :: z5 :: (.pointer (some ⟨b6, 0, none⟩)) :: z7 :: z8 :: z9 :: z10 :: z11 :: z12 :: z13 :: z14 :: z15 :: z16 :: z17 :: z18 :: z19 :: z20 :: z21 :: z22 :: z23 :: z24 :: zz), defers := [] } u := by
  have _ := hQ
  have _ := u
  have _ := z0
  have _ := z1
  have _ := z2
  have _ := z3
  have _ := z4
  have _ := z5
  have _ := z7
  have _ := z8
  have _ := z9
  have _ := z10
  have _ := z11
  have _ := z12
  have _ := z13
  have _ := z14
  have _ := z15
  have _ := z16
  have _ := z17
  have _ := z18
  have _ := z19
  have _ := z20
  have _ := z21
  have _ := z22
  have _ := z23
  have _ := z24
  have _ := zz
  have _ := b6
  have _ := hb6
  refine wp_region_list (show wpList _ ze9Ops _ [ze9Op0, ze9Op1] _ _ from ?_)
  have hS : Kp [b6] u u := Kp.refl _ u
  have Bb6 := hb6
  refine wpList_plain rfl (fun K hK => ?_)
  refine wp_val (.agg (vals .u8 32 z3B)) (by kernel_rfl) ?_
  have hS' := hS
  refine hK _ _ ?_
  clear hK K
  have qBb6 : Blk u b6 (vals .u8 32 (fun _ => 0)) 22 := Bb6
  clear hS Bb6
  have Bb6 := qBb6
  have hS := hS'
  clear hS' qBb6
  refine wpList_fr (a' := { tmps := List.toArray (z0 :: z1 :: z2 :: z3 :: z4 :: z5 :: (.pointer (some ⟨b6, 0, none⟩)) :: z7 :: z8 :: z9 :: z10 :: z11 :: z12 :: z13 :: z14 :: z15 :: z16 :: z17 :: z18 :: z19 :: z20 :: z21 :: z22 :: z23 :: (.agg (vals .u8 32 z3B)) :: zz), defers := [] }) (by kernel_rfl) ?_
  refine wpList_plain rfl (fun K hK => ?_)
  refine wp_store_row 22 _ _ rfl b6 (vals .u8 32 z3B) (by kernel_rfl) (by kernel_rfl) 22 _ Bb6 (size_by _) (by simp only [vals_size]) (vals_one _ _ _) ?_
  have hS' := hS.old (x := b6) (by simp) (vals .u8 32 z3B)
  refine hK _ _ ?_
  clear hK K
  have qBb6 : Blk (u.setRow b6 (vals .u8 32 z3B)) b6 (vals .u8 32 z3B) 22 := (Bb6.row (vals .u8 32 z3B))
  clear hS Bb6
  have Bb6 := qBb6
  have hS := hS'
  clear hS' qBb6
  refine wpList_fr (a' := { tmps := List.toArray (z0 :: z1 :: z2 :: z3 :: z4 :: z5 :: (.pointer (some ⟨b6, 0, none⟩)) :: z7 :: z8 :: z9 :: z10 :: z11 :: z12 :: z13 :: z14 :: z15 :: z16 :: z17 :: z18 :: z19 :: z20 :: z21 :: z22 :: z23 :: (.agg (vals .u8 32 z3B)) :: zz), defers := [] }) (by kernel_rfl) ?_
  generalize (u.setRow b6 (vals .u8 32 z3B)) = w1 at *
  refine wpList_nil ?_
  exact H  w1 hS Bb6
def ze11Op0 : Oper := { dst := some 27, op := Op.build 22 #[(0, Operand.const (Value.int IntKind.u8 95)), (1, Operand.const (Value.int IntKind.u8 156)), (2, Operand.const (Value.int IntKind.u8 149)), (3, Operand.const (Value.int IntKind.u8 188)), (4, Operand.const (Value.int IntKind.u8 163)), (5, Operand.const (Value.int IntKind.u8 80)), (6, Operand.const (Value.int IntKind.u8 140)), (7, Operand.const (Value.int IntKind.u8 36)), (8, Operand.const (Value.int IntKind.u8 177)), (9, Operand.const (Value.int IntKind.u8 208)), (10, Operand.const (Value.int IntKind.u8 177)), (11, Operand.const (Value.int IntKind.u8 85)), (12, Operand.const (Value.int IntKind.u8 156)), (13, Operand.const (Value.int IntKind.u8 131)), (14, Operand.const (Value.int IntKind.u8 239)), (15, Operand.const (Value.int IntKind.u8 91)), (16, Operand.const (Value.int IntKind.u8 4)), (17, Operand.const (Value.int IntKind.u8 68)), (18, Operand.const (Value.int IntKind.u8 92)), (19, Operand.const (Value.int IntKind.u8 196)), (20, Operand.const (Value.int IntKind.u8 88)), (21, Operand.const (Value.int IntKind.u8 28)), (22, Operand.const (Value.int IntKind.u8 142)), (23, Operand.const (Value.int IntKind.u8 134)), (24, Operand.const (Value.int IntKind.u8 216)), (25, Operand.const (Value.int IntKind.u8 34)), (26, Operand.const (Value.int IntKind.u8 78)), (27, Operand.const (Value.int IntKind.u8 221)), (28, Operand.const (Value.int IntKind.u8 208)), (29, Operand.const (Value.int IntKind.u8 159)), (30, Operand.const (Value.int IntKind.u8 17)), (31, Operand.const (Value.int IntKind.u8 87))], type := 22, pos := "law.go:64", after := #[], guard := none }
def ze11Op1 : Oper := { dst := none, op := Op.store 22 (Operand.tmp 6) (Operand.tmp 27), type := 0, pos := "law.go:64", after := #[{ on := 0, ground := Ground.data }, { on := 0, ground := Ground.phase }], guard := none }
def ze11Ops : Array Oper := #[ze11Op0, ze11Op1]
set_option maxRecDepth 100000 in
set_option maxHeartbeats 2000000 in
theorem ze11_region (Q : Exit → Act → World → Prop) (hQ : ∀ c a w n v, Q (.panic c) (a.put (some n) v) w → Q (.panic c) a w) (u : World) (z0 z1 z2 z3 z4 z5 z7 z8 z9 z10 z11 z12 z13 z14 z15 z16 z17 z18 z19 z20 z21 z22 z23 z24 z25 z26 z27 : Value) (zz : List Value) (b6 : Nat) (hb6 : Blk u b6 (vals .u8 32 (fun _ => 0)) 22) (H : ∀ (w : World), Kp [b6] u w → Blk w b6 (vals .u8 32 z4B) 22 → Q .normal { tmps := List.toArray (z0 :: z1 :: z2 :: z3 :: z4 :: z5 :: (.pointer (some ⟨b6, 0, none⟩)) :: z7 :: z8 :: z9 :: z10 :: z11 :: z12 :: z13 :: z14 :: z15 :: z16 :: z17 :: z18 :: z19 :: z20 :: z21 :: z22 :: z23 :: z24 :: z25 :: z26 :: (.agg (vals .u8 32 z4B)) :: zz), defers := [] } w) :
    (Code.region 11 ze11Ops false).wp Try.prog Q { tmps := List.toArray (z0 :: z1 :: z2 :: z3 :: z4 :: z5 :: (.pointer (some ⟨b6, 0, none⟩)) :: z7 :: z8 :: z9 :: z10 :: z11 :: z12 :: z13 :: z14 :: z15 :: z16 :: z17 :: z18 :: z19 :: z20 :: z21 :: z22 :: z23 :: z24 :: z25 :: z26 :: z27 :: zz), defers := [] } u := by
  have _ := hQ
  have _ := u
  have _ := z0
  have _ := z1
  have _ := z2
  have _ := z3
  have _ := z4
  have _ := z5
  have _ := z7
  have _ := z8
  have _ := z9
  have _ := z10
  have _ := z11
  have _ := z12
  have _ := z13
  have _ := z14
  have _ := z15
  have _ := z16
  have _ := z17
  have _ := z18
  have _ := z19
  have _ := z20
  have _ := z21
  have _ := z22
  have _ := z23
  have _ := z24
  have _ := z25
  have _ := z26
  have _ := z27
  have _ := zz
  have _ := b6
  have _ := hb6
  refine wp_region_list (show wpList _ ze11Ops _ [ze11Op0, ze11Op1] _ _ from ?_)
  have hS : Kp [b6] u u := Kp.refl _ u
  have Bb6 := hb6
  refine wpList_plain rfl (fun K hK => ?_)
  refine wp_val (.agg (vals .u8 32 z4B)) (by kernel_rfl) ?_
  have hS' := hS
  refine hK _ _ ?_
  clear hK K
  have qBb6 : Blk u b6 (vals .u8 32 (fun _ => 0)) 22 := Bb6
  clear hS Bb6
  have Bb6 := qBb6
  have hS := hS'
  clear hS' qBb6
  refine wpList_fr (a' := { tmps := List.toArray (z0 :: z1 :: z2 :: z3 :: z4 :: z5 :: (.pointer (some ⟨b6, 0, none⟩)) :: z7 :: z8 :: z9 :: z10 :: z11 :: z12 :: z13 :: z14 :: z15 :: z16 :: z17 :: z18 :: z19 :: z20 :: z21 :: z22 :: z23 :: z24 :: z25 :: z26 :: (.agg (vals .u8 32 z4B)) :: zz), defers := [] }) (by kernel_rfl) ?_
  refine wpList_plain rfl (fun K hK => ?_)
  refine wp_store_row 22 _ _ rfl b6 (vals .u8 32 z4B) (by kernel_rfl) (by kernel_rfl) 22 _ Bb6 (size_by _) (by simp only [vals_size]) (vals_one _ _ _) ?_
  have hS' := hS.old (x := b6) (by simp) (vals .u8 32 z4B)
  refine hK _ _ ?_
  clear hK K
  have qBb6 : Blk (u.setRow b6 (vals .u8 32 z4B)) b6 (vals .u8 32 z4B) 22 := (Bb6.row (vals .u8 32 z4B))
  clear hS Bb6
  have Bb6 := qBb6
  have hS := hS'
  clear hS' qBb6
  refine wpList_fr (a' := { tmps := List.toArray (z0 :: z1 :: z2 :: z3 :: z4 :: z5 :: (.pointer (some ⟨b6, 0, none⟩)) :: z7 :: z8 :: z9 :: z10 :: z11 :: z12 :: z13 :: z14 :: z15 :: z16 :: z17 :: z18 :: z19 :: z20 :: z21 :: z22 :: z23 :: z24 :: z25 :: z26 :: (.agg (vals .u8 32 z4B)) :: zz), defers := [] }) (by kernel_rfl) ?_
  generalize (u.setRow b6 (vals .u8 32 z4B)) = w1 at *
  refine wpList_nil ?_
  exact H  w1 hS Bb6
def ze12Op0 : Oper := { dst := some 29, op := Op.load 22 (Operand.tmp 2), type := 22, pos := "law.go:66", after := #[], guard := none }
def ze12Op1 : Oper := { dst := some 30, op := Op.load 22 (Operand.tmp 6), type := 22, pos := "law.go:66", after := #[], guard := none }
def ze12Op2 : Oper := { dst := some 31, op := Op.call { callee := Callee.value (Operand.func 11), args := #[Operand.tmp 29, Operand.tmp 30], argTypes := #[22, 22] }, type := 25, pos := "law.go:66", after := #[{ on := 0, ground := Ground.data }, { on := 1, ground := Ground.data }], guard := none }
def ze12Op3 : Oper := { dst := some 28, op := Op.move (Operand.tmp 31), type := 25, pos := "law.go:66", after := #[{ on := 2, ground := Ground.data }], guard := none }
def ze12Op4 : Oper := { dst := some 32, op := Op.extract (Operand.tmp 28) 0, type := 22, pos := "law.go:66", after := #[{ on := 3, ground := Ground.data }], guard := none }
def ze12Op5 : Oper := { dst := some 33, op := Op.extract (Operand.tmp 28) 1, type := 4, pos := "law.go:66", after := #[{ on := 3, ground := Ground.data }, { on := 7, ground := Ground.gcOnly Departure.lateStores }], guard := none }
def ze12Op6 : Oper := { dst := some 7, op := Op.alloc 22, type := 0, pos := "law.go:66", after := #[], guard := none }
def ze12Op7 : Oper := { dst := none, op := Op.store 22 (Operand.tmp 7) (Operand.tmp 32), type := 0, pos := "law.go:66", after := #[{ on := 6, ground := Ground.data }, { on := 4, ground := Ground.data }, { on := 2, ground := Ground.chain }, { on := 0, ground := Ground.phase }, { on := 1, ground := Ground.phase }, { on := 2, ground := Ground.phase }, { on := 3, ground := Ground.phase }, { on := 4, ground := Ground.phase }, { on := 5, ground := Ground.textOnly Departure.lateStores }, { on := 6, ground := Ground.phase }], guard := none }
def ze12Op8 : Oper := { dst := some 8, op := Op.assign (Operand.tmp 33), type := 4, pos := "law.go:66", after := #[{ on := 5, ground := Ground.data }, { on := 7, ground := Ground.chain }, { on := 0, ground := Ground.phase }, { on := 1, ground := Ground.phase }, { on := 2, ground := Ground.phase }, { on := 3, ground := Ground.phase }, { on := 4, ground := Ground.phase }, { on := 5, ground := Ground.phase }, { on := 6, ground := Ground.phase }, { on := 7, ground := Ground.phase }], guard := none }
def ze12Ops : Array Oper := #[ze12Op0, ze12Op1, ze12Op2, ze12Op3, ze12Op4, ze12Op5, ze12Op6, ze12Op7, ze12Op8]
set_option maxRecDepth 100000 in
set_option maxHeartbeats 2000000 in
theorem ze12_region (Q : Exit → Act → World → Prop) (hQ : ∀ c a w n v, Q (.panic c) (a.put (some n) v) w → Q (.panic c) a w) (u : World) (z0 z1 z3 z4 z5 z7 z8 z9 z10 z11 z12 z13 z14 z15 z16 z17 z18 z19 z20 z21 z22 z23 z24 z25 z26 z27 z28 z29 z30 z31 z32 z33 : Value) (zz : List Value) (b2 b6 : Nat) (f g : Nat → Nat) (hf : ∀ i, f i < 256) (hg : ∀ i, g i < 256) (hb2 : Blk u b2 (vals .u8 32 f) 22) (nb2 : b2 ∉ ([] : List Nat)) (hb6 : Blk u b6 (vals .u8 32 g) 22) (nb6 : b6 ∉ ([] : List Nat)) (H : ∀ (n7 : Nat) (w : World), Kp [] u w → u.heap.size ≤ n7 → Blk w n7 (vals .u8 32 (byt (xm f g))) 22 → Q .normal { tmps := List.toArray (z0 :: z1 :: (.pointer (some ⟨b2, 0, none⟩)) :: z3 :: z4 :: z5 :: (.pointer (some ⟨b6, 0, none⟩)) :: (.pointer (some ⟨n7, 0, none⟩)) :: (.bool (decide (xm f g ≠ 0))) :: z9 :: z10 :: z11 :: z12 :: z13 :: z14 :: z15 :: z16 :: z17 :: z18 :: z19 :: z20 :: z21 :: z22 :: z23 :: z24 :: z25 :: z26 :: z27 :: (.tuple #[.agg (vals .u8 32 (byt (xm f g))), .bool (decide (xm f g ≠ 0))]) :: (.agg (vals .u8 32 f)) :: (.agg (vals .u8 32 g)) :: (.tuple #[.agg (vals .u8 32 (byt (xm f g))), .bool (decide (xm f g ≠ 0))]) :: (.agg (vals .u8 32 (byt (xm f g)))) :: (.bool (decide (xm f g ≠ 0))) :: zz), defers := [] } w) :
    (Code.region 12 ze12Ops false).wp Try.prog Q { tmps := List.toArray (z0 :: z1 :: (.pointer (some ⟨b2, 0, none⟩)) :: z3 :: z4 :: z5 :: (.pointer (some ⟨b6, 0, none⟩)) :: z7 :: z8 :: z9 :: z10 :: z11 :: z12 :: z13 :: z14 :: z15 :: z16 :: z17 :: z18 :: z19 :: z20 :: z21 :: z22 :: z23 :: z24 :: z25 :: z26 :: z27 :: z28 :: z29 :: z30 :: z31 :: z32 :: z33 :: zz), defers := [] } u := by
  have _ := hQ
  have _ := u
  have _ := z0
  have _ := z1
  have _ := z3
  have _ := z4
  have _ := z5
  have _ := z7
  have _ := z8
  have _ := z9
  have _ := z10
  have _ := z11
  have _ := z12
  have _ := z13
  have _ := z14
  have _ := z15
  have _ := z16
  have _ := z17
  have _ := z18
  have _ := z19
  have _ := z20
  have _ := z21
  have _ := z22
  have _ := z23
  have _ := z24
  have _ := z25
  have _ := z26
  have _ := z27
  have _ := z28
  have _ := z29
  have _ := z30
  have _ := z31
  have _ := z32
  have _ := z33
  have _ := zz
  have _ := b2
  have _ := b6
  have _ := f
  have _ := g
  have _ := hf
  have _ := hg
  have _ := hb2
  have _ := nb2
  have _ := hb6
  have _ := nb6
  refine wp_region_list (show wpList _ ze12Ops _ [ze12Op0, ze12Op1, ze12Op2, ze12Op3, ze12Op4, ze12Op5, ze12Op6, ze12Op7, ze12Op8] _ _ from ?_)
  have hS : Kp [] u u := Kp.refl _ u
  refine wpList_plain rfl (fun K hK => ?_)
  refine wp_load_row 22 _ rfl b2 (by kernel_rfl) 22 _ (0, 0) _ (hS.keep _ _ _ nb2 hb2) Try.underlying22 rfl (size_by _) ?_
  have hS' := hS
  refine hK _ _ ?_
  clear hK K
  clear hS
  have hS := hS'
  clear hS'
  refine wpList_fr (a' := { tmps := List.toArray (z0 :: z1 :: (.pointer (some ⟨b2, 0, none⟩)) :: z3 :: z4 :: z5 :: (.pointer (some ⟨b6, 0, none⟩)) :: z7 :: z8 :: z9 :: z10 :: z11 :: z12 :: z13 :: z14 :: z15 :: z16 :: z17 :: z18 :: z19 :: z20 :: z21 :: z22 :: z23 :: z24 :: z25 :: z26 :: z27 :: z28 :: (.agg (vals .u8 32 f)) :: z30 :: z31 :: z32 :: z33 :: zz), defers := [] }) (by kernel_rfl) ?_
  refine wpList_plain rfl (fun K hK => ?_)
  refine wp_load_row 22 _ rfl b6 (by kernel_rfl) 22 _ (0, 0) _ (hS.keep _ _ _ nb6 hb6) Try.underlying22 rfl (size_by _) ?_
  have hS' := hS
  refine hK _ _ ?_
  clear hK K
  clear hS
  have hS := hS'
  clear hS'
  refine wpList_fr (a' := { tmps := List.toArray (z0 :: z1 :: (.pointer (some ⟨b2, 0, none⟩)) :: z3 :: z4 :: z5 :: (.pointer (some ⟨b6, 0, none⟩)) :: z7 :: z8 :: z9 :: z10 :: z11 :: z12 :: z13 :: z14 :: z15 :: z16 :: z17 :: z18 :: z19 :: z20 :: z21 :: z22 :: z23 :: z24 :: z25 :: z26 :: z27 :: z28 :: (.agg (vals .u8 32 f)) :: (.agg (vals .u8 32 g)) :: z31 :: z32 :: z33 :: zz), defers := [] }) (by kernel_rfl) ?_
  refine wpList_plain rfl (fun K hK => ?_)
  refine wp_call_val 11 #[.agg (vals .u8 32 f), .agg (vals .u8 32 g)] (by kernel_rfl) (.tuple #[.agg (vals .u8 32 (byt (xm f g))), .bool (decide (xm f g ≠ 0))]) (shared_c f g _ hf hg) ?_
  intro w2 hbw
  have hS' := hS.call hbw
  refine hK _ _ ?_
  clear hK K
  clear hS
  have hS := hS'
  clear hS'
  refine wpList_fr (a' := { tmps := List.toArray (z0 :: z1 :: (.pointer (some ⟨b2, 0, none⟩)) :: z3 :: z4 :: z5 :: (.pointer (some ⟨b6, 0, none⟩)) :: z7 :: z8 :: z9 :: z10 :: z11 :: z12 :: z13 :: z14 :: z15 :: z16 :: z17 :: z18 :: z19 :: z20 :: z21 :: z22 :: z23 :: z24 :: z25 :: z26 :: z27 :: z28 :: (.agg (vals .u8 32 f)) :: (.agg (vals .u8 32 g)) :: (.tuple #[.agg (vals .u8 32 (byt (xm f g))), .bool (decide (xm f g ≠ 0))]) :: z32 :: z33 :: zz), defers := [] }) (by kernel_rfl) ?_
  refine wpList_plain rfl (fun K hK => ?_)
  refine wp_val (.tuple #[.agg (vals .u8 32 (byt (xm f g))), .bool (decide (xm f g ≠ 0))]) (by kernel_rfl) ?_
  have hS' := hS
  refine hK _ _ ?_
  clear hK K
  clear hS
  have hS := hS'
  clear hS'
  refine wpList_fr (a' := { tmps := List.toArray (z0 :: z1 :: (.pointer (some ⟨b2, 0, none⟩)) :: z3 :: z4 :: z5 :: (.pointer (some ⟨b6, 0, none⟩)) :: z7 :: z8 :: z9 :: z10 :: z11 :: z12 :: z13 :: z14 :: z15 :: z16 :: z17 :: z18 :: z19 :: z20 :: z21 :: z22 :: z23 :: z24 :: z25 :: z26 :: z27 :: (.tuple #[.agg (vals .u8 32 (byt (xm f g))), .bool (decide (xm f g ≠ 0))]) :: (.agg (vals .u8 32 f)) :: (.agg (vals .u8 32 g)) :: (.tuple #[.agg (vals .u8 32 (byt (xm f g))), .bool (decide (xm f g ≠ 0))]) :: z32 :: z33 :: zz), defers := [] }) (by kernel_rfl) ?_
  refine wpList_plain rfl (fun K hK => ?_)
  refine wp_val (.agg (vals .u8 32 (byt (xm f g)))) (by kernel_rfl) ?_
  have hS' := hS
  refine hK _ _ ?_
  clear hK K
  clear hS
  have hS := hS'
  clear hS'
  refine wpList_fr (a' := { tmps := List.toArray (z0 :: z1 :: (.pointer (some ⟨b2, 0, none⟩)) :: z3 :: z4 :: z5 :: (.pointer (some ⟨b6, 0, none⟩)) :: z7 :: z8 :: z9 :: z10 :: z11 :: z12 :: z13 :: z14 :: z15 :: z16 :: z17 :: z18 :: z19 :: z20 :: z21 :: z22 :: z23 :: z24 :: z25 :: z26 :: z27 :: (.tuple #[.agg (vals .u8 32 (byt (xm f g))), .bool (decide (xm f g ≠ 0))]) :: (.agg (vals .u8 32 f)) :: (.agg (vals .u8 32 g)) :: (.tuple #[.agg (vals .u8 32 (byt (xm f g))), .bool (decide (xm f g ≠ 0))]) :: (.agg (vals .u8 32 (byt (xm f g)))) :: z33 :: zz), defers := [] }) (by kernel_rfl) ?_
  refine wpList_plain rfl (fun K hK => ?_)
  refine wp_val (.bool (decide (xm f g ≠ 0))) (by kernel_rfl) ?_
  have hS' := hS
  refine hK _ _ ?_
  clear hK K
  clear hS
  have hS := hS'
  clear hS'
  refine wpList_fr (a' := { tmps := List.toArray (z0 :: z1 :: (.pointer (some ⟨b2, 0, none⟩)) :: z3 :: z4 :: z5 :: (.pointer (some ⟨b6, 0, none⟩)) :: z7 :: z8 :: z9 :: z10 :: z11 :: z12 :: z13 :: z14 :: z15 :: z16 :: z17 :: z18 :: z19 :: z20 :: z21 :: z22 :: z23 :: z24 :: z25 :: z26 :: z27 :: (.tuple #[.agg (vals .u8 32 (byt (xm f g))), .bool (decide (xm f g ≠ 0))]) :: (.agg (vals .u8 32 f)) :: (.agg (vals .u8 32 g)) :: (.tuple #[.agg (vals .u8 32 (byt (xm f g))), .bool (decide (xm f g ≠ 0))]) :: (.agg (vals .u8 32 (byt (xm f g)))) :: (.bool (decide (xm f g ≠ 0))) :: zz), defers := [] }) (by kernel_rfl) ?_
  refine wpList_plain rfl (fun K hK => ?_)
  refine wp_new _ 22 (alloc_by _ _ _ rfl) ?_
  intro n7 w6 eb Bn7 hbw
  have hS' := hS.call hbw
  refine hK _ _ ?_
  clear hK K
  have qgn7 : u.heap.size ≤ n7 := (by rw [eb]; exact hS.size)
  have qBn7 : Blk w6 n7 (vals .u8 32 (fun _ => 0)) 22 := Bn7
  clear hS
  have gn7 := qgn7
  have Bn7 := qBn7
  have hS := hS'
  clear hS' qgn7 qBn7
  refine wpList_fr (a' := { tmps := List.toArray (z0 :: z1 :: (.pointer (some ⟨b2, 0, none⟩)) :: z3 :: z4 :: z5 :: (.pointer (some ⟨b6, 0, none⟩)) :: (.pointer (some ⟨n7, 0, none⟩)) :: z8 :: z9 :: z10 :: z11 :: z12 :: z13 :: z14 :: z15 :: z16 :: z17 :: z18 :: z19 :: z20 :: z21 :: z22 :: z23 :: z24 :: z25 :: z26 :: z27 :: (.tuple #[.agg (vals .u8 32 (byt (xm f g))), .bool (decide (xm f g ≠ 0))]) :: (.agg (vals .u8 32 f)) :: (.agg (vals .u8 32 g)) :: (.tuple #[.agg (vals .u8 32 (byt (xm f g))), .bool (decide (xm f g ≠ 0))]) :: (.agg (vals .u8 32 (byt (xm f g)))) :: (.bool (decide (xm f g ≠ 0))) :: zz), defers := [] }) (by kernel_rfl) ?_
  refine wpList_plain rfl (fun K hK => ?_)
  refine wp_store_row 22 _ _ rfl n7 (vals .u8 32 (byt (xm f g))) (by kernel_rfl) (by kernel_rfl) 22 _ Bn7 (size_by _) (by simp only [vals_size]) (vals_one _ _ _) ?_
  have hS' := hS.new gn7 (vals .u8 32 (byt (xm f g)))
  refine hK _ _ ?_
  clear hK K
  have qgn7 : u.heap.size ≤ n7 := gn7
  have qBn7 : Blk (w6.setRow n7 (vals .u8 32 (byt (xm f g)))) n7 (vals .u8 32 (byt (xm f g))) 22 := (Bn7.row (vals .u8 32 (byt (xm f g))))
  clear hS gn7 Bn7
  have gn7 := qgn7
  have Bn7 := qBn7
  have hS := hS'
  clear hS' qgn7 qBn7
  refine wpList_fr (a' := { tmps := List.toArray (z0 :: z1 :: (.pointer (some ⟨b2, 0, none⟩)) :: z3 :: z4 :: z5 :: (.pointer (some ⟨b6, 0, none⟩)) :: (.pointer (some ⟨n7, 0, none⟩)) :: z8 :: z9 :: z10 :: z11 :: z12 :: z13 :: z14 :: z15 :: z16 :: z17 :: z18 :: z19 :: z20 :: z21 :: z22 :: z23 :: z24 :: z25 :: z26 :: z27 :: (.tuple #[.agg (vals .u8 32 (byt (xm f g))), .bool (decide (xm f g ≠ 0))]) :: (.agg (vals .u8 32 f)) :: (.agg (vals .u8 32 g)) :: (.tuple #[.agg (vals .u8 32 (byt (xm f g))), .bool (decide (xm f g ≠ 0))]) :: (.agg (vals .u8 32 (byt (xm f g)))) :: (.bool (decide (xm f g ≠ 0))) :: zz), defers := [] }) (by kernel_rfl) ?_
  generalize (w6.setRow n7 (vals .u8 32 (byt (xm f g)))) = w7 at *
  refine wpList_plain rfl (fun K hK => ?_)
  refine wp_val (.bool (decide (xm f g ≠ 0))) (by kernel_rfl) ?_
  have hS' := hS
  refine hK _ _ ?_
  clear hK K
  have qgn7 : u.heap.size ≤ n7 := gn7
  have qBn7 : Blk w7 n7 (vals .u8 32 (byt (xm f g))) 22 := Bn7
  clear hS gn7 Bn7
  have gn7 := qgn7
  have Bn7 := qBn7
  have hS := hS'
  clear hS' qgn7 qBn7
  refine wpList_fr (a' := { tmps := List.toArray (z0 :: z1 :: (.pointer (some ⟨b2, 0, none⟩)) :: z3 :: z4 :: z5 :: (.pointer (some ⟨b6, 0, none⟩)) :: (.pointer (some ⟨n7, 0, none⟩)) :: (.bool (decide (xm f g ≠ 0))) :: z9 :: z10 :: z11 :: z12 :: z13 :: z14 :: z15 :: z16 :: z17 :: z18 :: z19 :: z20 :: z21 :: z22 :: z23 :: z24 :: z25 :: z26 :: z27 :: (.tuple #[.agg (vals .u8 32 (byt (xm f g))), .bool (decide (xm f g ≠ 0))]) :: (.agg (vals .u8 32 f)) :: (.agg (vals .u8 32 g)) :: (.tuple #[.agg (vals .u8 32 (byt (xm f g))), .bool (decide (xm f g ≠ 0))]) :: (.agg (vals .u8 32 (byt (xm f g)))) :: (.bool (decide (xm f g ≠ 0))) :: zz), defers := [] }) (by kernel_rfl) ?_
  refine wpList_nil ?_
  exact H n7 w7 hS gn7 Bn7
def ze13Op0 : Oper := { dst := some 34, op := Op.move (Operand.tmp 5), type := 4, pos := "law.go:67", after := #[], guard := none }
def ze13Op1 : Oper := { dst := some 35, op := Op.move (Operand.tmp 34), type := 4, pos := "law.go:67", after := #[{ on := 0, ground := Ground.data }], guard := none }
def ze13Op2 : Oper := { dst := some 36, op := Op.load 22 (Operand.tmp 7), type := 22, pos := "law.go:67", after := #[{ on := 1, ground := Ground.guard }], guard := some (1, true) }
def ze13Op3 : Oper := { dst := some 37, op := Op.build 22 #[], type := 22, pos := "law.go:67", after := #[{ on := 1, ground := Ground.guard }], guard := some (1, true) }
def ze13Op4 : Oper := { dst := some 38, op := Op.binOp BinOp.eql 22 (Operand.tmp 36) (Operand.tmp 37) 22, type := 4, pos := "law.go:67", after := #[{ on := 2, ground := Ground.data }, { on := 3, ground := Ground.data }, { on := 1, ground := Ground.guard }], guard := some (1, true) }
def ze13Op5 : Oper := { dst := some 39, op := Op.pick (Operand.tmp 35) (Operand.tmp 38) (Operand.const (Value.bool false)), type := 4, pos := "law.go:67", after := #[{ on := 1, ground := Ground.data }, { on := 4, ground := Ground.data }], guard := none }
def ze13Op6 : Oper := { dst := some 40, op := Op.move (Operand.tmp 39), type := 4, pos := "law.go:67", after := #[{ on := 5, ground := Ground.data }, { on := 1, ground := Ground.chain }], guard := none }
def ze13Op7 : Oper := { dst := some 41, op := Op.move (Operand.tmp 8), type := 4, pos := "law.go:67", after := #[{ on := 6, ground := Ground.guard }], guard := some (6, true) }
def ze13Op8 : Oper := { dst := some 42, op := Op.unOp UnOp.not 4 (Operand.tmp 41), type := 4, pos := "law.go:67", after := #[{ on := 7, ground := Ground.data }, { on := 6, ground := Ground.guard }], guard := some (6, true) }
def ze13Op9 : Oper := { dst := some 43, op := Op.pick (Operand.tmp 40) (Operand.tmp 42) (Operand.const (Value.bool false)), type := 4, pos := "law.go:67", after := #[{ on := 6, ground := Ground.data }, { on := 8, ground := Ground.data }], guard := none }
def ze13Op10 : Oper := { dst := some 4, op := Op.assign (Operand.tmp 43), type := 4, pos := "law.go:67", after := #[{ on := 9, ground := Ground.data }, { on := 6, ground := Ground.chain }, { on := 0, ground := Ground.phase }, { on := 1, ground := Ground.phase }, { on := 2, ground := Ground.phase }, { on := 3, ground := Ground.phase }, { on := 4, ground := Ground.phase }, { on := 5, ground := Ground.phase }, { on := 6, ground := Ground.phase }, { on := 7, ground := Ground.phase }, { on := 8, ground := Ground.phase }, { on := 9, ground := Ground.phase }], guard := none }
def ze13Ops : Array Oper := #[ze13Op0, ze13Op1, ze13Op2, ze13Op3, ze13Op4, ze13Op5, ze13Op6, ze13Op7, ze13Op8, ze13Op9, ze13Op10]
set_option maxRecDepth 100000 in
set_option maxHeartbeats 2000000 in
theorem ze13_region (Q : Exit → Act → World → Prop) (hQ : ∀ c a w n v, Q (.panic c) (a.put (some n) v) w → Q (.panic c) a w) (u : World) (z0 z1 z2 z3 z4 z6 z9 z10 z11 z12 z13 z14 z15 z16 z17 z18 z19 z20 z21 z22 z23 z24 z25 z26 z27 z28 z29 z30 z31 z32 z33 z34 z35 z36 z37 z38 z39 z40 z41 z42 z43 : Value) (b7 : Nat) (m : Nat → Nat) (hm : sameB m (fun _ => 0) = true) (hb7 : Blk u b7 (vals .u8 32 m) 22) (nb7 : b7 ∉ ([] : List Nat)) (H : ∀ (w : World), Kp [] u w → Q .normal { tmps := List.toArray (z0 :: z1 :: z2 :: z3 :: (.bool true) :: (.bool true) :: z6 :: (.pointer (some ⟨b7, 0, none⟩)) :: (.bool false) :: z9 :: z10 :: z11 :: z12 :: z13 :: z14 :: z15 :: z16 :: z17 :: z18 :: z19 :: z20 :: z21 :: z22 :: z23 :: z24 :: z25 :: z26 :: z27 :: z28 :: z29 :: z30 :: z31 :: z32 :: z33 :: (.bool true) :: (.bool true) :: (.agg (vals .u8 32 m)) :: (.agg (vals .u8 32 (fun _ => 0))) :: (.bool true) :: (.bool true) :: (.bool true) :: (.bool false) :: (.bool true) :: (.bool true) :: []), defers := [] } w) :
    (Code.region 13 ze13Ops false).wp Try.prog Q { tmps := List.toArray (z0 :: z1 :: z2 :: z3 :: z4 :: (.bool true) :: z6 :: (.pointer (some ⟨b7, 0, none⟩)) :: (.bool false) :: z9 :: z10 :: z11 :: z12 :: z13 :: z14 :: z15 :: z16 :: z17 :: z18 :: z19 :: z20 :: z21 :: z22 :: z23 :: z24 :: z25 :: z26 :: z27 :: z28 :: z29 :: z30 :: z31 :: z32 :: z33 :: z34 :: z35 :: z36 :: z37 :: z38 :: z39 :: z40 :: z41 :: z42 :: z43 :: []), defers := [] } u := by
  have _ := hQ
  have _ := u
  have _ := z0
  have _ := z1
  have _ := z2
  have _ := z3
  have _ := z4
  have _ := z6
  have _ := z9
  have _ := z10
  have _ := z11
  have _ := z12
  have _ := z13
  have _ := z14
  have _ := z15
  have _ := z16
  have _ := z17
  have _ := z18
  have _ := z19
  have _ := z20
  have _ := z21
  have _ := z22
  have _ := z23
  have _ := z24
  have _ := z25
  have _ := z26
  have _ := z27
  have _ := z28
  have _ := z29
  have _ := z30
  have _ := z31
  have _ := z32
  have _ := z33
  have _ := z34
  have _ := z35
  have _ := z36
  have _ := z37
  have _ := z38
  have _ := z39
  have _ := z40
  have _ := z41
  have _ := z42
  have _ := z43
  have _ := b7
  have _ := m
  have _ := hm
  have _ := hb7
  have _ := nb7
  refine wp_region_list (show wpList _ ze13Ops _ [ze13Op0, ze13Op1, ze13Op2, ze13Op3, ze13Op4, ze13Op5, ze13Op6, ze13Op7, ze13Op8, ze13Op9, ze13Op10] _ _ from ?_)
  have hS : Kp [] u u := Kp.refl _ u
  refine wpList_plain rfl (fun K hK => ?_)
  refine wp_val (.bool true) (by kernel_rfl) ?_
  have hS' := hS
  refine hK _ _ ?_
  clear hK K
  clear hS
  have hS := hS'
  clear hS'
  refine wpList_fr (a' := { tmps := List.toArray (z0 :: z1 :: z2 :: z3 :: z4 :: (.bool true) :: z6 :: (.pointer (some ⟨b7, 0, none⟩)) :: (.bool false) :: z9 :: z10 :: z11 :: z12 :: z13 :: z14 :: z15 :: z16 :: z17 :: z18 :: z19 :: z20 :: z21 :: z22 :: z23 :: z24 :: z25 :: z26 :: z27 :: z28 :: z29 :: z30 :: z31 :: z32 :: z33 :: (.bool true) :: z35 :: z36 :: z37 :: z38 :: z39 :: z40 :: z41 :: z42 :: z43 :: []), defers := [] }) (by kernel_rfl) ?_
  refine wpList_plain rfl (fun K hK => ?_)
  refine wp_val (.bool true) (by kernel_rfl) ?_
  have hS' := hS
  refine hK _ _ ?_
  clear hK K
  clear hS
  have hS := hS'
  clear hS'
  refine wpList_fr (a' := { tmps := List.toArray (z0 :: z1 :: z2 :: z3 :: z4 :: (.bool true) :: z6 :: (.pointer (some ⟨b7, 0, none⟩)) :: (.bool false) :: z9 :: z10 :: z11 :: z12 :: z13 :: z14 :: z15 :: z16 :: z17 :: z18 :: z19 :: z20 :: z21 :: z22 :: z23 :: z24 :: z25 :: z26 :: z27 :: z28 :: z29 :: z30 :: z31 :: z32 :: z33 :: (.bool true) :: (.bool true) :: z36 :: z37 :: z38 :: z39 :: z40 :: z41 :: z42 :: z43 :: []), defers := [] }) (by kernel_rfl) ?_
  refine wpList_step (fun K hK => ?_)
  rw [if_pos (by kernel_rfl)]
  refine wp_load_row 22 _ rfl b7 (by kernel_rfl) 22 _ (0, 0) _ (hS.keep _ _ _ nb7 hb7) Try.underlying22 rfl (size_by _) ?_
  have hS' := hS
  refine hK _ _ ?_
  clear hK K
  clear hS
  have hS := hS'
  clear hS'
  refine wpList_fr (a' := { tmps := List.toArray (z0 :: z1 :: z2 :: z3 :: z4 :: (.bool true) :: z6 :: (.pointer (some ⟨b7, 0, none⟩)) :: (.bool false) :: z9 :: z10 :: z11 :: z12 :: z13 :: z14 :: z15 :: z16 :: z17 :: z18 :: z19 :: z20 :: z21 :: z22 :: z23 :: z24 :: z25 :: z26 :: z27 :: z28 :: z29 :: z30 :: z31 :: z32 :: z33 :: (.bool true) :: (.bool true) :: (.agg (vals .u8 32 m)) :: z37 :: z38 :: z39 :: z40 :: z41 :: z42 :: z43 :: []), defers := [] }) (by kernel_rfl) ?_
  refine wpList_step (fun K hK => ?_)
  rw [if_pos (by kernel_rfl)]
  refine wp_val (.agg (vals .u8 32 (fun _ => 0))) (by kernel_rfl) ?_
  have hS' := hS
  refine hK _ _ ?_
  clear hK K
  clear hS
  have hS := hS'
  clear hS'
  refine wpList_fr (a' := { tmps := List.toArray (z0 :: z1 :: z2 :: z3 :: z4 :: (.bool true) :: z6 :: (.pointer (some ⟨b7, 0, none⟩)) :: (.bool false) :: z9 :: z10 :: z11 :: z12 :: z13 :: z14 :: z15 :: z16 :: z17 :: z18 :: z19 :: z20 :: z21 :: z22 :: z23 :: z24 :: z25 :: z26 :: z27 :: z28 :: z29 :: z30 :: z31 :: z32 :: z33 :: (.bool true) :: (.bool true) :: (.agg (vals .u8 32 m)) :: (.agg (vals .u8 32 (fun _ => 0))) :: z38 :: z39 :: z40 :: z41 :: z42 :: z43 :: []), defers := [] }) (by kernel_rfl) ?_
  refine wpList_step (fun K hK => ?_)
  rw [if_pos (by kernel_rfl)]
  refine wp_val (.bool true) (eql_t _ _ m (fun _ => 0) _ rfl (by kernel_rfl) (by kernel_rfl) hm) ?_
  have hS' := hS
  refine hK _ _ ?_
  clear hK K
  clear hS
  have hS := hS'
  clear hS'
  refine wpList_fr (a' := { tmps := List.toArray (z0 :: z1 :: z2 :: z3 :: z4 :: (.bool true) :: z6 :: (.pointer (some ⟨b7, 0, none⟩)) :: (.bool false) :: z9 :: z10 :: z11 :: z12 :: z13 :: z14 :: z15 :: z16 :: z17 :: z18 :: z19 :: z20 :: z21 :: z22 :: z23 :: z24 :: z25 :: z26 :: z27 :: z28 :: z29 :: z30 :: z31 :: z32 :: z33 :: (.bool true) :: (.bool true) :: (.agg (vals .u8 32 m)) :: (.agg (vals .u8 32 (fun _ => 0))) :: (.bool true) :: z39 :: z40 :: z41 :: z42 :: z43 :: []), defers := [] }) (by kernel_rfl) ?_
  refine wpList_plain rfl (fun K hK => ?_)
  refine wp_val (.bool true) (by kernel_rfl) ?_
  have hS' := hS
  refine hK _ _ ?_
  clear hK K
  clear hS
  have hS := hS'
  clear hS'
  refine wpList_fr (a' := { tmps := List.toArray (z0 :: z1 :: z2 :: z3 :: z4 :: (.bool true) :: z6 :: (.pointer (some ⟨b7, 0, none⟩)) :: (.bool false) :: z9 :: z10 :: z11 :: z12 :: z13 :: z14 :: z15 :: z16 :: z17 :: z18 :: z19 :: z20 :: z21 :: z22 :: z23 :: z24 :: z25 :: z26 :: z27 :: z28 :: z29 :: z30 :: z31 :: z32 :: z33 :: (.bool true) :: (.bool true) :: (.agg (vals .u8 32 m)) :: (.agg (vals .u8 32 (fun _ => 0))) :: (.bool true) :: (.bool true) :: z40 :: z41 :: z42 :: z43 :: []), defers := [] }) (by kernel_rfl) ?_
  refine wpList_plain rfl (fun K hK => ?_)
  refine wp_val (.bool true) (by kernel_rfl) ?_
  have hS' := hS
  refine hK _ _ ?_
  clear hK K
  clear hS
  have hS := hS'
  clear hS'
  refine wpList_fr (a' := { tmps := List.toArray (z0 :: z1 :: z2 :: z3 :: z4 :: (.bool true) :: z6 :: (.pointer (some ⟨b7, 0, none⟩)) :: (.bool false) :: z9 :: z10 :: z11 :: z12 :: z13 :: z14 :: z15 :: z16 :: z17 :: z18 :: z19 :: z20 :: z21 :: z22 :: z23 :: z24 :: z25 :: z26 :: z27 :: z28 :: z29 :: z30 :: z31 :: z32 :: z33 :: (.bool true) :: (.bool true) :: (.agg (vals .u8 32 m)) :: (.agg (vals .u8 32 (fun _ => 0))) :: (.bool true) :: (.bool true) :: (.bool true) :: z41 :: z42 :: z43 :: []), defers := [] }) (by kernel_rfl) ?_
  refine wpList_step (fun K hK => ?_)
  rw [if_pos (by kernel_rfl)]
  refine wp_val (.bool false) (by kernel_rfl) ?_
  have hS' := hS
  refine hK _ _ ?_
  clear hK K
  clear hS
  have hS := hS'
  clear hS'
  refine wpList_fr (a' := { tmps := List.toArray (z0 :: z1 :: z2 :: z3 :: z4 :: (.bool true) :: z6 :: (.pointer (some ⟨b7, 0, none⟩)) :: (.bool false) :: z9 :: z10 :: z11 :: z12 :: z13 :: z14 :: z15 :: z16 :: z17 :: z18 :: z19 :: z20 :: z21 :: z22 :: z23 :: z24 :: z25 :: z26 :: z27 :: z28 :: z29 :: z30 :: z31 :: z32 :: z33 :: (.bool true) :: (.bool true) :: (.agg (vals .u8 32 m)) :: (.agg (vals .u8 32 (fun _ => 0))) :: (.bool true) :: (.bool true) :: (.bool true) :: (.bool false) :: z42 :: z43 :: []), defers := [] }) (by kernel_rfl) ?_
  refine wpList_step (fun K hK => ?_)
  rw [if_pos (by kernel_rfl)]
  refine wp_val (.bool true) (by kernel_rfl) ?_
  have hS' := hS
  refine hK _ _ ?_
  clear hK K
  clear hS
  have hS := hS'
  clear hS'
  refine wpList_fr (a' := { tmps := List.toArray (z0 :: z1 :: z2 :: z3 :: z4 :: (.bool true) :: z6 :: (.pointer (some ⟨b7, 0, none⟩)) :: (.bool false) :: z9 :: z10 :: z11 :: z12 :: z13 :: z14 :: z15 :: z16 :: z17 :: z18 :: z19 :: z20 :: z21 :: z22 :: z23 :: z24 :: z25 :: z26 :: z27 :: z28 :: z29 :: z30 :: z31 :: z32 :: z33 :: (.bool true) :: (.bool true) :: (.agg (vals .u8 32 m)) :: (.agg (vals .u8 32 (fun _ => 0))) :: (.bool true) :: (.bool true) :: (.bool true) :: (.bool false) :: (.bool true) :: z43 :: []), defers := [] }) (by kernel_rfl) ?_
  refine wpList_plain rfl (fun K hK => ?_)
  refine wp_val (.bool true) (by kernel_rfl) ?_
  have hS' := hS
  refine hK _ _ ?_
  clear hK K
  clear hS
  have hS := hS'
  clear hS'
  refine wpList_fr (a' := { tmps := List.toArray (z0 :: z1 :: z2 :: z3 :: z4 :: (.bool true) :: z6 :: (.pointer (some ⟨b7, 0, none⟩)) :: (.bool false) :: z9 :: z10 :: z11 :: z12 :: z13 :: z14 :: z15 :: z16 :: z17 :: z18 :: z19 :: z20 :: z21 :: z22 :: z23 :: z24 :: z25 :: z26 :: z27 :: z28 :: z29 :: z30 :: z31 :: z32 :: z33 :: (.bool true) :: (.bool true) :: (.agg (vals .u8 32 m)) :: (.agg (vals .u8 32 (fun _ => 0))) :: (.bool true) :: (.bool true) :: (.bool true) :: (.bool false) :: (.bool true) :: (.bool true) :: []), defers := [] }) (by kernel_rfl) ?_
  refine wpList_plain rfl (fun K hK => ?_)
  refine wp_val (.bool true) (by kernel_rfl) ?_
  have hS' := hS
  refine hK _ _ ?_
  clear hK K
  clear hS
  have hS := hS'
  clear hS'
  refine wpList_fr (a' := { tmps := List.toArray (z0 :: z1 :: z2 :: z3 :: (.bool true) :: (.bool true) :: z6 :: (.pointer (some ⟨b7, 0, none⟩)) :: (.bool false) :: z9 :: z10 :: z11 :: z12 :: z13 :: z14 :: z15 :: z16 :: z17 :: z18 :: z19 :: z20 :: z21 :: z22 :: z23 :: z24 :: z25 :: z26 :: z27 :: z28 :: z29 :: z30 :: z31 :: z32 :: z33 :: (.bool true) :: (.bool true) :: (.agg (vals .u8 32 m)) :: (.agg (vals .u8 32 (fun _ => 0))) :: (.bool true) :: (.bool true) :: (.bool true) :: (.bool false) :: (.bool true) :: (.bool true) :: []), defers := [] }) (by kernel_rfl) ?_
  refine wpList_nil ?_
  exact H  u hS 
set_option maxRecDepth 100000 in
set_option maxHeartbeats 4000000 in
theorem zero_walk (f : Nat → Nat) (k : Nat) (w : World) (hf : ∀ i, f i < 256) (hk : k < 256) : Ret 6 #[.agg (vals .u8 32 f), .int .u8 ((k : Nat) : Int)] w (.bool true) := by
  have key : ∀ g : Nat → Nat, (co g = 0 ∨ co g = lit1 ∨ co g = lit2 ∨ co g = lit3 ∨ co g = lit4) → decide (xm f g ≠ 0) = false ∧ sameB (byt (xm f g)) (fun _ => 0) = true := fun g h => by
    rw [same_zero _ (xm_lt256 f g), xm_zero f g h]
    exact ⟨rfl, rfl⟩
  have Hkey := hide key
  obtain ⟨v, hv⟩ : ∃ v, v = k % 5 := ⟨_, rfl⟩
  have kv := rem5 k hk
  have v5 : v < 5 := by omega
  rw [← hv] at kv
  have Hkv := hide kv
  clear key kv hv
  go_enter Try.func6, Try.ntmps6
  go_upto_region 0 with (fail)
  refine ze0_region _ (fun _ _ _ _ _ h => h) w _ _ _ _ _ f ?_
  intro n2 w1 hK g2 B2
  have hL1 := hK.below w _ (Nat.le_refl _) (Below.refl _ w)
  have s1 := hK.size
  go_upto_region 1 with (fail)
  refine ze1_region _ (fun _ _ _ _ _ h => h) w1 _ _ _ _ _ _ _ _ _ _ _ ?_
  intro w2 hK2
  have C2 := hK2.keep _ _ _ (not_nil _) B2
  have hL2 := hK2.below w _ s1 hL1
  have s2 := Nat.le_trans s1 hK2.size
  go_upto_region 2 with (fail)
  refine ze2_region _ (fun _ _ _ _ _ h => h) w2 _ _ _ _ _ _ _ _ _ _ _ _ ?_
  intro n6 w3 hK3 g6 B6
  have D2 := hK3.keep _ _ _ (not_nil _) C2
  have hL3 := hK3.below w _ s2 hL2
  have s3 := Nat.le_trans s2 hK3.size
  have e26 : n2 ≠ n6 := Nat.ne_of_lt (Nat.lt_of_lt_of_le C2.lt g6)
  go_upto_region 3 with (fail)
  refine ze3_region _ (fun _ _ _ _ _ h => h) w3 _ _ _ _ _ _ _ _ _ _ _ _ _ k v Hkv.out ?_
  intro w4 hK4
  have E2 := hK4.keep _ _ _ (not_nil _) D2
  have E6 := hK4.keep _ _ _ (not_nil _) B6
  have hL4 := hK4.below w _ s3 hL3
  have s4 := Nat.le_trans s3 hK4.size
  have hz6 : w.heap.size ≤ n6 := Nat.le_trans s2 g6
  clear hK hK2 hK3 hK4 B2 C2 D2 B6 g2 g6 hL1 hL2 hL3
  rcases (by omega : v = 0 ∨ v = 1 ∨ v = 2 ∨ v = 3 ∨ v = 4) with rfl | rfl | rfl | rfl | rfl
  · skip
    obtain ⟨k1, k2⟩ := Hkey.out (fun _ => 0) (.inl co_zero)
    have K2 := hide k2
    clear k2
    go_upto_region 12 with (fail)
    refine ze12_region _ (fun _ _ _ _ _ h => h) w4 _ _ _ _ _ _ _ _ _ _ _ _ _ _ _ _ _ _ _ _ _ _ _ _ _ _ _ _ _ _ _ _ _ n2 n6 f (fun _ => 0) hf (fun _ => by omega) E2 (not_nil _) E6 (not_nil _) ?_
    rw [k1]
    intro n7 w5 hK5 g7 B7
    have hL5 := hK5.below w _ s4 hL4
    have s5 := Nat.le_trans s4 hK5.size
    go_upto_region 13 with (fail)
    refine ze13_region _ (fun _ _ _ _ _ h => h) w5 _ _ _ _ _ _ _ _ _ _ _ _ _ _ _ _ _ _ _ _ _ _ _ _ _ _ _ _ _ _ _ _ _ _ _ _ _ _ _ _ _ n7 _ K2.out B7 (not_nil _) ?_
    intro w6 hK6
    have hL6 := hK6.below w _ s5 hL5
    have s6 := Nat.le_trans s5 hK6.size
    go_wp2_with fail
    go_ret
    exact ⟨rfl, hL6⟩
  · skip
    go_upto_region 5 with (fail)
    refine ze5_region _ (fun _ _ _ _ _ h => h) w4 _ _ _ _ _ _ _ _ _ _ _ _ _ _ _ _ n6 (fun _ => 0) E6 ?_
    intro w5 hK5 G6
    have G6' := G6.cast (vals_congr .u8 32 _ (oneB 1) fun j _ => by unfold oneB; rfl)
    have G2 := hK5.keep _ _ _ (not_one e26) E2
    have hL5 := hK5.low _ _ (by intro x hx; simp at hx; omega) s4 hL4
    have s5 := Nat.le_trans s4 hK5.size
    obtain ⟨k1, k2⟩ := Hkey.out (oneB 1) (.inr (.inl co_one))
    have K2 := hide k2
    clear k2
    go_upto_region 12 with (fail)
    refine ze12_region _ (fun _ _ _ _ _ h => h) w5 _ _ _ _ _ _ _ _ _ _ _ _ _ _ _ _ _ _ _ _ _ _ _ _ _ _ _ _ _ _ _ _ _ n2 n6 f (oneB 1) hf (oneB_lt 1 (by omega)) G2 (not_nil _) G6' (not_nil _) ?_
    rw [k1]
    intro n7 w6 hK6 g7 B7
    have hL6 := hK6.below w _ s5 hL5
    have s6 := Nat.le_trans s5 hK6.size
    go_upto_region 13 with (fail)
    refine ze13_region _ (fun _ _ _ _ _ h => h) w6 _ _ _ _ _ _ _ _ _ _ _ _ _ _ _ _ _ _ _ _ _ _ _ _ _ _ _ _ _ _ _ _ _ _ _ _ _ _ _ _ _ n7 _ K2.out B7 (not_nil _) ?_
    intro w7 hK7
    have hL7 := hK7.below w _ s6 hL6
    have s7 := Nat.le_trans s6 hK7.size
    go_wp2_with fail
    go_ret
    exact ⟨rfl, hL7⟩
  · skip
    go_upto_region 7 with (fail)
    refine ze7_region _ (fun _ _ _ _ _ h => h) w4 _ _ _ _ _ _ _ _ _ _ _ _ _ _ _ _ _ _ _ _ _ _ n6 E6 ?_
    intro w5 hK5 G6
    have G2 := hK5.keep _ _ _ (not_one e26) E2
    have hL5 := hK5.low _ _ (by intro x hx; simp at hx; omega) s4 hL4
    have s5 := Nat.le_trans s4 hK5.size
    obtain ⟨k1, k2⟩ := Hkey.out (byt (ng 1)) (.inr (.inr (.inl co_neg)))
    have K2 := hide k2
    clear k2
    go_upto_region 12 with (fail)
    refine ze12_region _ (fun _ _ _ _ _ h => h) w5 _ _ _ _ _ _ _ _ _ _ _ _ _ _ _ _ _ _ _ _ _ _ _ _ _ _ _ _ _ _ _ _ _ n2 n6 f (byt (ng 1)) hf (byt_lt _) G2 (not_nil _) G6 (not_nil _) ?_
    rw [k1]
    intro n7 w6 hK6 g7 B7
    have hL6 := hK6.below w _ s5 hL5
    have s6 := Nat.le_trans s5 hK6.size
    go_upto_region 13 with (fail)
    refine ze13_region _ (fun _ _ _ _ _ h => h) w6 _ _ _ _ _ _ _ _ _ _ _ _ _ _ _ _ _ _ _ _ _ _ _ _ _ _ _ _ _ _ _ _ _ _ _ _ _ _ _ _ _ n7 _ K2.out B7 (not_nil _) ?_
    intro w7 hK7
    have hL7 := hK7.below w _ s6 hL6
    have s7 := Nat.le_trans s6 hK7.size
    go_wp2_with fail
    go_ret
    exact ⟨rfl, hL7⟩
  · skip
    go_upto_region 9 with (fail)
    refine ze9_region _ (fun _ _ _ _ _ h => h) w4 _ _ _ _ _ _ _ _ _ _ _ _ _ _ _ _ _ _ _ _ _ _ _ _ _ n6 E6 ?_
    intro w5 hK5 G6
    have G2 := hK5.keep _ _ _ (not_one e26) E2
    have hL5 := hK5.low _ _ (by intro x hx; simp at hx; omega) s4 hL4
    have s5 := Nat.le_trans s4 hK5.size
    obtain ⟨k1, k2⟩ := Hkey.out z3B (.inr (.inr (.inr (.inl co_z3))))
    have K2 := hide k2
    clear k2
    go_upto_region 12 with (fail)
    refine ze12_region _ (fun _ _ _ _ _ h => h) w5 _ _ _ _ _ _ _ _ _ _ _ _ _ _ _ _ _ _ _ _ _ _ _ _ _ _ _ _ _ _ _ _ _ n2 n6 f z3B hf z3B_lt G2 (not_nil _) G6 (not_nil _) ?_
    rw [k1]
    intro n7 w6 hK6 g7 B7
    have hL6 := hK6.below w _ s5 hL5
    have s6 := Nat.le_trans s5 hK6.size
    go_upto_region 13 with (fail)
    refine ze13_region _ (fun _ _ _ _ _ h => h) w6 _ _ _ _ _ _ _ _ _ _ _ _ _ _ _ _ _ _ _ _ _ _ _ _ _ _ _ _ _ _ _ _ _ _ _ _ _ _ _ _ _ n7 _ K2.out B7 (not_nil _) ?_
    intro w7 hK7
    have hL7 := hK7.below w _ s6 hL6
    have s7 := Nat.le_trans s6 hK7.size
    go_wp2_with fail
    go_ret
    exact ⟨rfl, hL7⟩
  · skip
    go_upto_region 11 with (fail)
    refine ze11_region _ (fun _ _ _ _ _ h => h) w4 _ _ _ _ _ _ _ _ _ _ _ _ _ _ _ _ _ _ _ _ _ _ _ _ _ _ _ _ n6 E6 ?_
    intro w5 hK5 G6
    have G2 := hK5.keep _ _ _ (not_one e26) E2
    have hL5 := hK5.low _ _ (by intro x hx; simp at hx; omega) s4 hL4
    have s5 := Nat.le_trans s4 hK5.size
    obtain ⟨k1, k2⟩ := Hkey.out z4B (.inr (.inr (.inr (.inr co_z4))))
    have K2 := hide k2
    clear k2
    go_upto_region 12 with (fail)
    refine ze12_region _ (fun _ _ _ _ _ h => h) w5 _ _ _ _ _ _ _ _ _ _ _ _ _ _ _ _ _ _ _ _ _ _ _ _ _ _ _ _ _ _ _ _ _ n2 n6 f z4B hf z4B_lt G2 (not_nil _) G6 (not_nil _) ?_
    rw [k1]
    intro n7 w6 hK6 g7 B7
    have hL6 := hK6.below w _ s5 hL5
    have s6 := Nat.le_trans s5 hK6.size
    go_upto_region 13 with (fail)
    refine ze13_region _ (fun _ _ _ _ _ h => h) w6 _ _ _ _ _ _ _ _ _ _ _ _ _ _ _ _ _ _ _ _ _ _ _ _ _ _ _ _ _ _ _ _ _ _ _ _ _ _ _ _ _ n7 _ K2.out B7 (not_nil _) ?_
    intro w7 hK7
    have hL7 := hK7.below w _ s6 hL6
    have s7 := Nat.le_trans s6 hK7.size
    go_wp2_with fail
    go_ret
    exact ⟨rfl, hL7⟩
end Go.Proofs.Ytidhffaphbiapaa

/- Walks: crossed. Four numbers below p; no other condition. -/
import Derived.Test.YtidhffaphbiapaaPb
namespace Go.Proofs.Ytidhffaphbiapaa
open F Go.RowKit

def cr0Op0 : Oper := { dst := some 4, op := Op.box 32 (Operand.tmp 0), type := 0, pos := "ladder.go:56", after := #[], guard := none }
def cr0Op1 : Oper := { dst := some 5, op := Op.box 32 (Operand.tmp 1), type := 0, pos := "ladder.go:56", after := #[], guard := none }
def cr0Op2 : Oper := { dst := some 6, op := Op.box 32 (Operand.tmp 2), type := 0, pos := "ladder.go:56", after := #[], guard := none }
def cr0Op3 : Oper := { dst := some 7, op := Op.box 32 (Operand.tmp 3), type := 0, pos := "ladder.go:56", after := #[], guard := none }
def cr0Op4 : Oper := { dst := some 8, op := Op.alloc 32, type := 0, pos := "ladder.go:56", after := #[], guard := none }
def cr0Op5 : Oper := { dst := some 9, op := Op.alloc 32, type := 0, pos := "ladder.go:56", after := #[], guard := none }
def cr0Ops : Array Oper := #[cr0Op0, cr0Op1, cr0Op2, cr0Op3, cr0Op4, cr0Op5]
set_option maxRecDepth 100000 in
set_option maxHeartbeats 2000000 in
theorem cr0_region (Q : Exit → Act → World → Prop) (hQ : ∀ c a w n v, Q (.panic c) (a.put (some n) v) w → Q (.panic c) a w) (u : World) (z4 z5 z6 z7 z8 z9 : Value) (zz : List Value) (a b c d : Nat) (H : ∀ (n4 : Nat) (n5 : Nat) (n6 : Nat) (n7 : Nat) (n8 : Nat) (n9 : Nat) (w : World), Kp [] u w → u.heap.size ≤ n4 → Blk w n4 (arr 4 (limb a)) 32 → u.heap.size ≤ n5 → Blk w n5 (arr 4 (limb b)) 32 → u.heap.size ≤ n6 → Blk w n6 (arr 4 (limb c)) 32 → u.heap.size ≤ n7 → Blk w n7 (arr 4 (limb d)) 32 → u.heap.size ≤ n8 → Blk w n8 (arr 4 (fun _ => 0)) 32 → u.heap.size ≤ n9 → Blk w n9 (arr 4 (fun _ => 0)) 32 → n4 ≠ n5 → n4 ≠ n6 → n4 ≠ n7 → n4 ≠ n8 → n4 ≠ n9 → n5 ≠ n6 → n5 ≠ n7 → n5 ≠ n8 → n5 ≠ n9 → n6 ≠ n7 → n6 ≠ n8 → n6 ≠ n9 → n7 ≠ n8 → n7 ≠ n9 → n8 ≠ n9 → Q .normal { tmps := List.toArray ((.agg (arr 4 (limb a))) :: (.agg (arr 4 (limb b))) :: (.agg (arr 4 (limb c))) :: (.agg (arr 4 (limb d))) :: (.pointer (some ⟨n4, 0, none⟩)) :: (.pointer (some ⟨n5, 0, none⟩)) :: (.pointer (some ⟨n6, 0, none⟩)) :: (.pointer (some ⟨n7, 0, none⟩)) :: (.pointer (some ⟨n8, 0, none⟩)) :: (.pointer (some ⟨n9, 0, none⟩)) :: zz), defers := [] } w) :
    (Code.region 0 cr0Ops false).wp Try.prog Q { tmps := List.toArray ((.agg (arr 4 (limb a))) :: (.agg (arr 4 (limb b))) :: (.agg (arr 4 (limb c))) :: (.agg (arr 4 (limb d))) :: z4 :: z5 :: z6 :: z7 :: z8 :: z9 :: zz), defers := [] } u := by
  have _ := hQ
  have _ := u
  have _ := z4
  have _ := z5
  have _ := z6
  have _ := z7
  have _ := z8
  have _ := z9
  have _ := zz
  have _ := a
  have _ := b
  have _ := c
  have _ := d
  refine wp_region_list (show wpList _ cr0Ops _ [cr0Op0, cr0Op1, cr0Op2, cr0Op3, cr0Op4, cr0Op5] _ _ from ?_)
  have hS : Kp [] u u := Kp.refl _ u
  refine wpList_plain rfl (fun K hK => ?_)
  refine wp_new _ 32 (box_fe _ _ _ _ (limb a) rfl (by kernel_rfl)) ?_
  intro n4 w0 eb Bn4 hbw
  have hS' := hS.call hbw
  refine hK _ _ ?_
  clear hK K
  have qgn4 : u.heap.size ≤ n4 := (by rw [eb]; exact hS.size)
  have qBn4 : Blk w0 n4 (arr 4 (limb a)) 32 := Bn4
  clear hS
  have gn4 := qgn4
  have Bn4 := qBn4
  have hS := hS'
  clear hS' qgn4 qBn4
  refine wpList_fr (a' := { tmps := List.toArray ((.agg (arr 4 (limb a))) :: (.agg (arr 4 (limb b))) :: (.agg (arr 4 (limb c))) :: (.agg (arr 4 (limb d))) :: (.pointer (some ⟨n4, 0, none⟩)) :: z5 :: z6 :: z7 :: z8 :: z9 :: zz), defers := [] }) (by kernel_rfl) ?_
  refine wpList_plain rfl (fun K hK => ?_)
  refine wp_new _ 32 (box_fe _ _ _ _ (limb b) rfl (by kernel_rfl)) ?_
  intro n5 w1 eb Bn5 hbw
  have hS' := hS.call hbw
  refine hK _ _ ?_
  clear hK K
  have qgn4 : u.heap.size ≤ n4 := gn4
  have qBn4 : Blk w1 n4 (arr 4 (limb a)) 32 := (Bn4.call hbw)
  have qgn5 : u.heap.size ≤ n5 := (by rw [eb]; exact hS.size)
  have qBn5 : Blk w1 n5 (arr 4 (limb b)) 32 := Bn5
  have qen4n5 : n4 ≠ n5 := (by rw [eb]; exact Nat.ne_of_lt Bn4.lt)
  clear hS gn4 Bn4
  have gn4 := qgn4
  have Bn4 := qBn4
  have gn5 := qgn5
  have Bn5 := qBn5
  have en4n5 := qen4n5
  have hS := hS'
  clear hS' qgn4 qBn4 qgn5 qBn5 qen4n5
  refine wpList_fr (a' := { tmps := List.toArray ((.agg (arr 4 (limb a))) :: (.agg (arr 4 (limb b))) :: (.agg (arr 4 (limb c))) :: (.agg (arr 4 (limb d))) :: (.pointer (some ⟨n4, 0, none⟩)) :: (.pointer (some ⟨n5, 0, none⟩)) :: z6 :: z7 :: z8 :: z9 :: zz), defers := [] }) (by kernel_rfl) ?_
  refine wpList_plain rfl (fun K hK => ?_)
  refine wp_new _ 32 (box_fe _ _ _ _ (limb c) rfl (by kernel_rfl)) ?_
  intro n6 w2 eb Bn6 hbw
  have hS' := hS.call hbw
  refine hK _ _ ?_
  clear hK K
  have qgn4 : u.heap.size ≤ n4 := gn4
  have qBn4 : Blk w2 n4 (arr 4 (limb a)) 32 := (Bn4.call hbw)
  have qgn5 : u.heap.size ≤ n5 := gn5
  have qBn5 : Blk w2 n5 (arr 4 (limb b)) 32 := (Bn5.call hbw)
  have qgn6 : u.heap.size ≤ n6 := (by rw [eb]; exact hS.size)
  have qBn6 : Blk w2 n6 (arr 4 (limb c)) 32 := Bn6
  have qen4n5 : n4 ≠ n5 := en4n5
  have qen4n6 : n4 ≠ n6 := (by rw [eb]; exact Nat.ne_of_lt Bn4.lt)
  have qen5n6 : n5 ≠ n6 := (by rw [eb]; exact Nat.ne_of_lt Bn5.lt)
  clear hS gn4 Bn4 gn5 Bn5 en4n5
  have gn4 := qgn4
  have Bn4 := qBn4
  have gn5 := qgn5
  have Bn5 := qBn5
  have gn6 := qgn6
  have Bn6 := qBn6
  have en4n5 := qen4n5
  have en4n6 := qen4n6
  have en5n6 := qen5n6
  have hS := hS'
  clear hS' qgn4 qBn4 qgn5 qBn5 qgn6 qBn6 qen4n5 qen4n6 qen5n6
  refine wpList_fr (a' := { tmps := List.toArray ((.agg (arr 4 (limb a))) :: (.agg (arr 4 (limb b))) :: (.agg (arr 4 (limb c))) :: (.agg (arr 4 (limb d))) :: (.pointer (some ⟨n4, 0, none⟩)) :: (.pointer (some ⟨n5, 0, none⟩)) :: (.pointer (some ⟨n6, 0, none⟩)) :: z7 :: z8 :: z9 :: zz), defers := [] }) (by kernel_rfl) ?_
  refine wpList_plain rfl (fun K hK => ?_)
  refine wp_new _ 32 (box_fe _ _ _ _ (limb d) rfl (by kernel_rfl)) ?_
  intro n7 w3 eb Bn7 hbw
  have hS' := hS.call hbw
  refine hK _ _ ?_
  clear hK K
  have qgn4 : u.heap.size ≤ n4 := gn4
  have qBn4 : Blk w3 n4 (arr 4 (limb a)) 32 := (Bn4.call hbw)
  have qgn5 : u.heap.size ≤ n5 := gn5
  have qBn5 : Blk w3 n5 (arr 4 (limb b)) 32 := (Bn5.call hbw)
  have qgn6 : u.heap.size ≤ n6 := gn6
  have qBn6 : Blk w3 n6 (arr 4 (limb c)) 32 := (Bn6.call hbw)
  have qgn7 : u.heap.size ≤ n7 := (by rw [eb]; exact hS.size)
  have qBn7 : Blk w3 n7 (arr 4 (limb d)) 32 := Bn7
  have qen4n5 : n4 ≠ n5 := en4n5
  have qen4n6 : n4 ≠ n6 := en4n6
  have qen4n7 : n4 ≠ n7 := (by rw [eb]; exact Nat.ne_of_lt Bn4.lt)
  have qen5n6 : n5 ≠ n6 := en5n6
  have qen5n7 : n5 ≠ n7 := (by rw [eb]; exact Nat.ne_of_lt Bn5.lt)
  have qen6n7 : n6 ≠ n7 := (by rw [eb]; exact Nat.ne_of_lt Bn6.lt)
  clear hS gn4 Bn4 gn5 Bn5 gn6 Bn6 en4n5 en4n6 en5n6
  have gn4 := qgn4
  have Bn4 := qBn4
  have gn5 := qgn5
  have Bn5 := qBn5
  have gn6 := qgn6
  have Bn6 := qBn6
  have gn7 := qgn7
  have Bn7 := qBn7
  have en4n5 := qen4n5
  have en4n6 := qen4n6
  have en4n7 := qen4n7
  have en5n6 := qen5n6
  have en5n7 := qen5n7
  have en6n7 := qen6n7
  have hS := hS'
  clear hS' qgn4 qBn4 qgn5 qBn5 qgn6 qBn6 qgn7 qBn7 qen4n5 qen4n6 qen4n7 qen5n6 qen5n7 qen6n7
  refine wpList_fr (a' := { tmps := List.toArray ((.agg (arr 4 (limb a))) :: (.agg (arr 4 (limb b))) :: (.agg (arr 4 (limb c))) :: (.agg (arr 4 (limb d))) :: (.pointer (some ⟨n4, 0, none⟩)) :: (.pointer (some ⟨n5, 0, none⟩)) :: (.pointer (some ⟨n6, 0, none⟩)) :: (.pointer (some ⟨n7, 0, none⟩)) :: z8 :: z9 :: zz), defers := [] }) (by kernel_rfl) ?_
  refine wpList_plain rfl (fun K hK => ?_)
  refine wp_new _ 32 (alloc_fe _ _ _ rfl) ?_
  intro n8 w4 eb Bn8 hbw
  have hS' := hS.call hbw
  refine hK _ _ ?_
  clear hK K
  have qgn4 : u.heap.size ≤ n4 := gn4
  have qBn4 : Blk w4 n4 (arr 4 (limb a)) 32 := (Bn4.call hbw)
  have qgn5 : u.heap.size ≤ n5 := gn5
  have qBn5 : Blk w4 n5 (arr 4 (limb b)) 32 := (Bn5.call hbw)
  have qgn6 : u.heap.size ≤ n6 := gn6
  have qBn6 : Blk w4 n6 (arr 4 (limb c)) 32 := (Bn6.call hbw)
  have qgn7 : u.heap.size ≤ n7 := gn7
  have qBn7 : Blk w4 n7 (arr 4 (limb d)) 32 := (Bn7.call hbw)
  have qgn8 : u.heap.size ≤ n8 := (by rw [eb]; exact hS.size)
  have qBn8 : Blk w4 n8 (arr 4 (fun _ => 0)) 32 := Bn8
  have qen4n5 : n4 ≠ n5 := en4n5
  have qen4n6 : n4 ≠ n6 := en4n6
  have qen4n7 : n4 ≠ n7 := en4n7
  have qen4n8 : n4 ≠ n8 := (by rw [eb]; exact Nat.ne_of_lt Bn4.lt)
  have qen5n6 : n5 ≠ n6 := en5n6
  have qen5n7 : n5 ≠ n7 := en5n7
  have qen5n8 : n5 ≠ n8 := (by rw [eb]; exact Nat.ne_of_lt Bn5.lt)
  have qen6n7 : n6 ≠ n7 := en6n7
  have qen6n8 : n6 ≠ n8 := (by rw [eb]; exact Nat.ne_of_lt Bn6.lt)
  have qen7n8 : n7 ≠ n8 := (by rw [eb]; exact Nat.ne_of_lt Bn7.lt)
  clear hS gn4 Bn4 gn5 Bn5 gn6 Bn6 gn7 Bn7 en4n5 en4n6 en4n7 en5n6 en5n7 en6n7
  have gn4 := qgn4
  have Bn4 := qBn4
  have gn5 := qgn5
  have Bn5 := qBn5
  have gn6 := qgn6
  have Bn6 := qBn6
  have gn7 := qgn7
  have Bn7 := qBn7
  have gn8 := qgn8
  have Bn8 := qBn8
  have en4n5 := qen4n5
  have en4n6 := qen4n6
  have en4n7 := qen4n7
  have en4n8 := qen4n8
  have en5n6 := qen5n6
  have en5n7 := qen5n7
  have en5n8 := qen5n8
  have en6n7 := qen6n7
  have en6n8 := qen6n8
  have en7n8 := qen7n8
  have hS := hS'
  clear hS' qgn4 qBn4 qgn5 qBn5 qgn6 qBn6 qgn7 qBn7 qgn8 qBn8 qen4n5 qen4n6 qen4n7 qen4n8 qen5n6 qen5n7 qen5n8 qen6n7 qen6n8 qen7n8
  refine wpList_fr (a' := { tmps := List.toArray ((.agg (arr 4 (limb a))) :: (.agg (arr 4 (limb b))) :: (.agg (arr 4 (limb c))) :: (.agg (arr 4 (limb d))) :: (.pointer (some ⟨n4, 0, none⟩)) :: (.pointer (some ⟨n5, 0, none⟩)) :: (.pointer (some ⟨n6, 0, none⟩)) :: (.pointer (some ⟨n7, 0, none⟩)) :: (.pointer (some ⟨n8, 0, none⟩)) :: z9 :: zz), defers := [] }) (by kernel_rfl) ?_
  refine wpList_plain rfl (fun K hK => ?_)
  refine wp_new _ 32 (alloc_fe _ _ _ rfl) ?_
  intro n9 w5 eb Bn9 hbw
  have hS' := hS.call hbw
  refine hK _ _ ?_
  clear hK K
  have qgn4 : u.heap.size ≤ n4 := gn4
  have qBn4 : Blk w5 n4 (arr 4 (limb a)) 32 := (Bn4.call hbw)
  have qgn5 : u.heap.size ≤ n5 := gn5
  have qBn5 : Blk w5 n5 (arr 4 (limb b)) 32 := (Bn5.call hbw)
  have qgn6 : u.heap.size ≤ n6 := gn6
  have qBn6 : Blk w5 n6 (arr 4 (limb c)) 32 := (Bn6.call hbw)
  have qgn7 : u.heap.size ≤ n7 := gn7
  have qBn7 : Blk w5 n7 (arr 4 (limb d)) 32 := (Bn7.call hbw)
  have qgn8 : u.heap.size ≤ n8 := gn8
  have qBn8 : Blk w5 n8 (arr 4 (fun _ => 0)) 32 := (Bn8.call hbw)
  have qgn9 : u.heap.size ≤ n9 := (by rw [eb]; exact hS.size)
  have qBn9 : Blk w5 n9 (arr 4 (fun _ => 0)) 32 := Bn9
  have qen4n5 : n4 ≠ n5 := en4n5
  have qen4n6 : n4 ≠ n6 := en4n6
  have qen4n7 : n4 ≠ n7 := en4n7
  have qen4n8 : n4 ≠ n8 := en4n8
  have qen4n9 : n4 ≠ n9 := (by rw [eb]; exact Nat.ne_of_lt Bn4.lt)
  have qen5n6 : n5 ≠ n6 := en5n6
  have qen5n7 : n5 ≠ n7 := en5n7
  have qen5n8 : n5 ≠ n8 := en5n8
  have qen5n9 : n5 ≠ n9 := (by rw [eb]; exact Nat.ne_of_lt Bn5.lt)
  have qen6n7 : n6 ≠ n7 := en6n7
  have qen6n8 : n6 ≠ n8 := en6n8
  have qen6n9 : n6 ≠ n9 := (by rw [eb]; exact Nat.ne_of_lt Bn6.lt)
  have qen7n8 : n7 ≠ n8 := en7n8
  have qen7n9 : n7 ≠ n9 := (by rw [eb]; exact Nat.ne_of_lt Bn7.lt)
  have qen8n9 : n8 ≠ n9 := (by rw [eb]; exact Nat.ne_of_lt Bn8.lt)
  clear hS gn4 Bn4 gn5 Bn5 gn6 Bn6 gn7 Bn7 gn8 Bn8 en4n5 en4n6 en4n7 en4n8 en5n6 en5n7 en5n8 en6n7 en6n8 en7n8
  have gn4 := qgn4
  have Bn4 := qBn4
  have gn5 := qgn5
  have Bn5 := qBn5
  have gn6 := qgn6
  have Bn6 := qBn6
  have gn7 := qgn7
  have Bn7 := qBn7
  have gn8 := qgn8
  have Bn8 := qBn8
  have gn9 := qgn9
  have Bn9 := qBn9
  have en4n5 := qen4n5
  have en4n6 := qen4n6
  have en4n7 := qen4n7
  have en4n8 := qen4n8
  have en4n9 := qen4n9
  have en5n6 := qen5n6
  have en5n7 := qen5n7
  have en5n8 := qen5n8
  have en5n9 := qen5n9
  have en6n7 := qen6n7
  have en6n8 := qen6n8
  have en6n9 := qen6n9
  have en7n8 := qen7n8
  have en7n9 := qen7n9
  have en8n9 := qen8n9
  have hS := hS'
  clear hS' qgn4 qBn4 qgn5 qBn5 qgn6 qBn6 qgn7 qBn7 qgn8 qBn8 qgn9 qBn9 qen4n5 qen4n6 qen4n7 qen4n8 qen4n9 qen5n6 qen5n7 qen5n8 qen5n9 qen6n7 qen6n8 qen6n9 qen7n8 qen7n9 qen8n9
  refine wpList_fr (a' := { tmps := List.toArray ((.agg (arr 4 (limb a))) :: (.agg (arr 4 (limb b))) :: (.agg (arr 4 (limb c))) :: (.agg (arr 4 (limb d))) :: (.pointer (some ⟨n4, 0, none⟩)) :: (.pointer (some ⟨n5, 0, none⟩)) :: (.pointer (some ⟨n6, 0, none⟩)) :: (.pointer (some ⟨n7, 0, none⟩)) :: (.pointer (some ⟨n8, 0, none⟩)) :: (.pointer (some ⟨n9, 0, none⟩)) :: zz), defers := [] }) (by kernel_rfl) ?_
  refine wpList_nil ?_
  exact H n4 n5 n6 n7 n8 n9 w5 hS gn4 Bn4 gn5 Bn5 gn6 Bn6 gn7 Bn7 gn8 Bn8 gn9 Bn9 en4n5 en4n6 en4n7 en4n8 en4n9 en5n6 en5n7 en5n8 en5n9 en6n7 en6n8 en6n9 en7n8 en7n9 en8n9
def cr1Op0 : Oper := { dst := some 10, op := Op.load 32 (Operand.tmp 6), type := 32, pos := "ladder.go:57", after := #[], guard := none }
def cr1Op1 : Oper := { dst := some 11, op := Op.load 32 (Operand.tmp 7), type := 32, pos := "ladder.go:57", after := #[], guard := none }
def cr1Op2 : Oper := { dst := some 12, op := Op.call { callee := Callee.value (Operand.func 24), args := #[Operand.tmp 10, Operand.tmp 11], argTypes := #[32, 32] }, type := 32, pos := "ladder.go:57", after := #[{ on := 0, ground := Ground.data }, { on := 1, ground := Ground.data }], guard := none }
def cr1Op3 : Oper := { dst := some 13, op := Op.load 32 (Operand.tmp 4), type := 32, pos := "ladder.go:57", after := #[], guard := none }
def cr1Op4 : Oper := { dst := some 14, op := Op.load 32 (Operand.tmp 5), type := 32, pos := "ladder.go:57", after := #[], guard := none }
def cr1Op5 : Oper := { dst := some 15, op := Op.call { callee := Callee.value (Operand.func 26), args := #[Operand.tmp 13, Operand.tmp 14], argTypes := #[32, 32] }, type := 32, pos := "ladder.go:57", after := #[{ on := 3, ground := Ground.data }, { on := 4, ground := Ground.data }, { on := 2, ground := Ground.chain }], guard := none }
def cr1Op6 : Oper := { dst := some 16, op := Op.call { callee := Callee.value (Operand.func 25), args := #[Operand.tmp 12, Operand.tmp 15], argTypes := #[32, 32] }, type := 32, pos := "ladder.go:57", after := #[{ on := 2, ground := Ground.data }, { on := 5, ground := Ground.data }, { on := 5, ground := Ground.chain }], guard := none }
def cr1Op7 : Oper := { dst := some 17, op := Op.load 32 (Operand.tmp 6), type := 32, pos := "ladder.go:57", after := #[], guard := none }
def cr1Op8 : Oper := { dst := some 18, op := Op.load 32 (Operand.tmp 7), type := 32, pos := "ladder.go:57", after := #[], guard := none }
def cr1Op9 : Oper := { dst := some 19, op := Op.call { callee := Callee.value (Operand.func 26), args := #[Operand.tmp 17, Operand.tmp 18], argTypes := #[32, 32] }, type := 32, pos := "ladder.go:57", after := #[{ on := 7, ground := Ground.data }, { on := 8, ground := Ground.data }, { on := 6, ground := Ground.chain }], guard := none }
def cr1Op10 : Oper := { dst := some 20, op := Op.load 32 (Operand.tmp 4), type := 32, pos := "ladder.go:57", after := #[], guard := none }
def cr1Op11 : Oper := { dst := some 21, op := Op.load 32 (Operand.tmp 5), type := 32, pos := "ladder.go:57", after := #[], guard := none }
def cr1Op12 : Oper := { dst := some 22, op := Op.call { callee := Callee.value (Operand.func 24), args := #[Operand.tmp 20, Operand.tmp 21], argTypes := #[32, 32] }, type := 32, pos := "ladder.go:57", after := #[{ on := 10, ground := Ground.data }, { on := 11, ground := Ground.data }, { on := 9, ground := Ground.chain }], guard := none }
def cr1Op13 : Oper := { dst := some 23, op := Op.call { callee := Callee.value (Operand.func 25), args := #[Operand.tmp 19, Operand.tmp 22], argTypes := #[32, 32] }, type := 32, pos := "ladder.go:57", after := #[{ on := 9, ground := Ground.data }, { on := 12, ground := Ground.data }, { on := 12, ground := Ground.chain }], guard := none }
def cr1Op14 : Oper := { dst := none, op := Op.store 32 (Operand.tmp 8) (Operand.tmp 16), type := 0, pos := "ladder.go:57", after := #[{ on := 6, ground := Ground.data }, { on := 13, ground := Ground.chain }, { on := 0, ground := Ground.phase }, { on := 1, ground := Ground.phase }, { on := 2, ground := Ground.phase }, { on := 3, ground := Ground.phase }, { on := 4, ground := Ground.phase }, { on := 5, ground := Ground.phase }, { on := 6, ground := Ground.phase }, { on := 7, ground := Ground.textOnly Departure.lateStores }, { on := 8, ground := Ground.textOnly Departure.lateStores }, { on := 9, ground := Ground.textOnly Departure.lateStoresUnsure }, { on := 10, ground := Ground.textOnly Departure.lateStores }, { on := 11, ground := Ground.textOnly Departure.lateStores }, { on := 12, ground := Ground.textOnly Departure.lateStoresUnsure }, { on := 13, ground := Ground.textOnly Departure.lateStoresUnsure }], guard := none }
def cr1Op15 : Oper := { dst := none, op := Op.store 32 (Operand.tmp 9) (Operand.tmp 23), type := 0, pos := "ladder.go:57", after := #[{ on := 13, ground := Ground.data }, { on := 14, ground := Ground.chain }, { on := 0, ground := Ground.phase }, { on := 1, ground := Ground.phase }, { on := 2, ground := Ground.phase }, { on := 3, ground := Ground.phase }, { on := 4, ground := Ground.phase }, { on := 5, ground := Ground.phase }, { on := 6, ground := Ground.phase }, { on := 7, ground := Ground.phase }, { on := 8, ground := Ground.phase }, { on := 9, ground := Ground.phase }, { on := 10, ground := Ground.phase }, { on := 11, ground := Ground.phase }, { on := 12, ground := Ground.phase }, { on := 13, ground := Ground.phase }, { on := 14, ground := Ground.phase }], guard := none }
def cr1Ops : Array Oper := #[cr1Op0, cr1Op1, cr1Op2, cr1Op3, cr1Op4, cr1Op5, cr1Op6, cr1Op7, cr1Op8, cr1Op9, cr1Op10, cr1Op11, cr1Op12, cr1Op13, cr1Op14, cr1Op15]
structure cr1C (Q : Exit → Act → World → Prop) (u : World) (z10 z11 z12 z13 z14 z15 z16 z17 z18 z19 z20 z21 z22 z23 : Value) (b4 b5 b6 b7 b8 b9 : Nat) (a b c d : Nat) : Prop where
  hQ : ∀ c a w n v, Q (.panic c) (a.put (some n) v) w → Q (.panic c) a w
  ha : a < pP
  hb : b < pP
  hc : c < pP
  hd : d < pP
  hb4 : Blk u b4 (arr 4 (limb a)) 32
  nb4 : b4 ∉ ([b8, b9] : List Nat)
  hb5 : Blk u b5 (arr 4 (limb b)) 32
  nb5 : b5 ∉ ([b8, b9] : List Nat)
  hb6 : Blk u b6 (arr 4 (limb c)) 32
  nb6 : b6 ∉ ([b8, b9] : List Nat)
  hb7 : Blk u b7 (arr 4 (limb d)) 32
  nb7 : b7 ∉ ([b8, b9] : List Nat)
  hb8 : Blk u b8 (arr 4 (fun _ => 0)) 32
  hb9 : Blk u b9 (arr 4 (fun _ => 0)) 32
  eb8b9 : b8 ≠ b9
  H : ∀ (w : World), Kp [b8, b9] u w → Blk w b8 (arr 4 (limb (mm (am c d) (sm a b)))) 32 → Blk w b9 (arr 4 (limb (mm (sm c d) (am a b)))) 32 → Q .normal { tmps := List.toArray ((.agg (arr 4 (limb a))) :: (.agg (arr 4 (limb b))) :: (.agg (arr 4 (limb c))) :: (.agg (arr 4 (limb d))) :: (.pointer (some ⟨b4, 0, none⟩)) :: (.pointer (some ⟨b5, 0, none⟩)) :: (.pointer (some ⟨b6, 0, none⟩)) :: (.pointer (some ⟨b7, 0, none⟩)) :: (.pointer (some ⟨b8, 0, none⟩)) :: (.pointer (some ⟨b9, 0, none⟩)) :: (.agg (arr 4 (limb c))) :: (.agg (arr 4 (limb d))) :: (.agg (arr 4 (limb (am c d)))) :: (.agg (arr 4 (limb a))) :: (.agg (arr 4 (limb b))) :: (.agg (arr 4 (limb (sm a b)))) :: (.agg (arr 4 (limb (mm (am c d) (sm a b))))) :: (.agg (arr 4 (limb c))) :: (.agg (arr 4 (limb d))) :: (.agg (arr 4 (limb (sm c d)))) :: (.agg (arr 4 (limb a))) :: (.agg (arr 4 (limb b))) :: (.agg (arr 4 (limb (am a b)))) :: (.agg (arr 4 (limb (mm (sm c d) (am a b))))) :: []), defers := [] } w
section
variable {Q : Exit → Act → World → Prop} {u : World} {z10 z11 z12 z13 z14 z15 z16 z17 z18 z19 z20 z21 z22 z23 : Value} {b4 b5 b6 b7 b8 b9 : Nat} {a b c d : Nat}
set_option maxRecDepth 100000 in
set_option maxHeartbeats 2000000 in
theorem cr1_0 (C : cr1C Q u z10 z11 z12 z13 z14 z15 z16 z17 z18 z19 z20 z21 z22 z23 b4 b5 b6 b7 b8 b9 a b c d) (w : World) (hS : Kp [b8, b9] u w) (Bb8 : Blk w b8 (arr 4 (limb (mm (am c d) (sm a b)))) 32) (Bb9 : Blk w b9 (arr 4 (limb (mm (sm c d) (am a b)))) 32) :
    wpAnyH Try.prog .any cr1Ops Q (Kp [b8, b9] u) 0 (List.toArray (true :: true :: true :: true :: true :: true :: true :: true :: true :: true :: true :: true :: true :: true :: true :: true :: [])) { tmps := List.toArray ((.agg (arr 4 (limb a))) :: (.agg (arr 4 (limb b))) :: (.agg (arr 4 (limb c))) :: (.agg (arr 4 (limb d))) :: (.pointer (some ⟨b4, 0, none⟩)) :: (.pointer (some ⟨b5, 0, none⟩)) :: (.pointer (some ⟨b6, 0, none⟩)) :: (.pointer (some ⟨b7, 0, none⟩)) :: (.pointer (some ⟨b8, 0, none⟩)) :: (.pointer (some ⟨b9, 0, none⟩)) :: (.agg (arr 4 (limb c))) :: (.agg (arr 4 (limb d))) :: (.agg (arr 4 (limb (am c d)))) :: (.agg (arr 4 (limb a))) :: (.agg (arr 4 (limb b))) :: (.agg (arr 4 (limb (sm a b)))) :: (.agg (arr 4 (limb (mm (am c d) (sm a b))))) :: (.agg (arr 4 (limb c))) :: (.agg (arr 4 (limb d))) :: (.agg (arr 4 (limb (sm c d)))) :: (.agg (arr 4 (limb a))) :: (.agg (arr 4 (limb b))) :: (.agg (arr 4 (limb (am a b)))) :: (.agg (arr 4 (limb (mm (sm c d) (am a b))))) :: []), defers := [] } w := by
  exact wpAnyH_done (by kernel_rfl) (C.H  w hS Bb8 Bb9) _
set_option maxRecDepth 100000 in
set_option maxHeartbeats 2000000 in
theorem cr1_1 (C : cr1C Q u z10 z11 z12 z13 z14 z15 z16 z17 z18 z19 z20 z21 z22 z23 b4 b5 b6 b7 b8 b9 a b c d) (w : World) (hS : Kp [b8, b9] u w) (Bb8 : Blk w b8 (arr 4 (limb (mm (am c d) (sm a b)))) 32) (Bb9 : Blk w b9 (arr 4 (fun _ => 0)) 32) :
    wpAnyH Try.prog .any cr1Ops Q (Kp [b8, b9] u) 1 (List.toArray (true :: true :: true :: true :: true :: true :: true :: true :: true :: true :: true :: true :: true :: true :: true :: false :: [])) { tmps := List.toArray ((.agg (arr 4 (limb a))) :: (.agg (arr 4 (limb b))) :: (.agg (arr 4 (limb c))) :: (.agg (arr 4 (limb d))) :: (.pointer (some ⟨b4, 0, none⟩)) :: (.pointer (some ⟨b5, 0, none⟩)) :: (.pointer (some ⟨b6, 0, none⟩)) :: (.pointer (some ⟨b7, 0, none⟩)) :: (.pointer (some ⟨b8, 0, none⟩)) :: (.pointer (some ⟨b9, 0, none⟩)) :: (.agg (arr 4 (limb c))) :: (.agg (arr 4 (limb d))) :: (.agg (arr 4 (limb (am c d)))) :: (.agg (arr 4 (limb a))) :: (.agg (arr 4 (limb b))) :: (.agg (arr 4 (limb (sm a b)))) :: (.agg (arr 4 (limb (mm (am c d) (sm a b))))) :: (.agg (arr 4 (limb c))) :: (.agg (arr 4 (limb d))) :: (.agg (arr 4 (limb (sm c d)))) :: (.agg (arr 4 (limb a))) :: (.agg (arr 4 (limb b))) :: (.agg (arr 4 (limb (am a b)))) :: (.agg (arr 4 (limb (mm (sm c d) (am a b))))) :: []), defers := [] } w := by
  obtain ⟨hQ, ha, hb, hc, hd, hb4, nb4, hb5, nb5, hb6, nb6, hb7, nb7, hb8, hb9, eb8b9, _⟩ := id C
  refine wpAnyH_ready (rs := [15]) (by kernel_rfl) (by simp) ?_
  refine AllReadyH.cons (o := cr1Op15) rfl (fun K hK => ?_) AllReadyH.nil
  rw [if_pos (by rfl)]
  refine wp_store_row 32 _ _ rfl b9 (arr 4 (limb (mm (sm c d) (am a b)))) (by kernel_rfl) (by kernel_rfl) 32 _ Bb9 (size_fe _) (by rw [arr_size, arr_size]) (one_fe _) ?_
  have hS' := hS.old (x := b9) (by simp) (arr 4 (limb (mm (sm c d) (am a b))))
  refine hK.out _ _ hS' (fun _ => ?_)
  exact wpAnyH_at (by kernel_rfl) (by kernel_rfl) (cr1_0 C (w.setRow b9 (arr 4 (limb (mm (sm c d) (am a b))))) hS' (Bb8.rowOther (arr 4 (limb (mm (sm c d) (am a b)))) (Ne.symm eb8b9)) (Bb9.row (arr 4 (limb (mm (sm c d) (am a b))))))
set_option maxRecDepth 100000 in
set_option maxHeartbeats 2000000 in
theorem cr1_2 (C : cr1C Q u z10 z11 z12 z13 z14 z15 z16 z17 z18 z19 z20 z21 z22 z23 b4 b5 b6 b7 b8 b9 a b c d) (w : World) (hS : Kp [b8, b9] u w) (Bb8 : Blk w b8 (arr 4 (fun _ => 0)) 32) (Bb9 : Blk w b9 (arr 4 (fun _ => 0)) 32) :
    wpAnyH Try.prog .any cr1Ops Q (Kp [b8, b9] u) 2 (List.toArray (true :: true :: true :: true :: true :: true :: true :: true :: true :: true :: true :: true :: true :: true :: false :: false :: [])) { tmps := List.toArray ((.agg (arr 4 (limb a))) :: (.agg (arr 4 (limb b))) :: (.agg (arr 4 (limb c))) :: (.agg (arr 4 (limb d))) :: (.pointer (some ⟨b4, 0, none⟩)) :: (.pointer (some ⟨b5, 0, none⟩)) :: (.pointer (some ⟨b6, 0, none⟩)) :: (.pointer (some ⟨b7, 0, none⟩)) :: (.pointer (some ⟨b8, 0, none⟩)) :: (.pointer (some ⟨b9, 0, none⟩)) :: (.agg (arr 4 (limb c))) :: (.agg (arr 4 (limb d))) :: (.agg (arr 4 (limb (am c d)))) :: (.agg (arr 4 (limb a))) :: (.agg (arr 4 (limb b))) :: (.agg (arr 4 (limb (sm a b)))) :: (.agg (arr 4 (limb (mm (am c d) (sm a b))))) :: (.agg (arr 4 (limb c))) :: (.agg (arr 4 (limb d))) :: (.agg (arr 4 (limb (sm c d)))) :: (.agg (arr 4 (limb a))) :: (.agg (arr 4 (limb b))) :: (.agg (arr 4 (limb (am a b)))) :: (.agg (arr 4 (limb (mm (sm c d) (am a b))))) :: []), defers := [] } w := by
  obtain ⟨hQ, ha, hb, hc, hd, hb4, nb4, hb5, nb5, hb6, nb6, hb7, nb7, hb8, hb9, eb8b9, _⟩ := id C
  refine wpAnyH_ready (rs := [14]) (by kernel_rfl) (by simp) ?_
  refine AllReadyH.cons (o := cr1Op14) rfl (fun K hK => ?_) AllReadyH.nil
  rw [if_pos (by rfl)]
  refine wp_store_row 32 _ _ rfl b8 (arr 4 (limb (mm (am c d) (sm a b)))) (by kernel_rfl) (by kernel_rfl) 32 _ Bb8 (size_fe _) (by rw [arr_size, arr_size]) (one_fe _) ?_
  have hS' := hS.old (x := b8) (by simp) (arr 4 (limb (mm (am c d) (sm a b))))
  refine hK.out _ _ hS' (fun _ => ?_)
  exact wpAnyH_at (by kernel_rfl) (by kernel_rfl) (cr1_1 C (w.setRow b8 (arr 4 (limb (mm (am c d) (sm a b))))) hS' (Bb8.row (arr 4 (limb (mm (am c d) (sm a b))))) (Bb9.rowOther (arr 4 (limb (mm (am c d) (sm a b)))) eb8b9))
set_option maxRecDepth 100000 in
set_option maxHeartbeats 2000000 in
theorem cr1_3 (C : cr1C Q u z10 z11 z12 z13 z14 z15 z16 z17 z18 z19 z20 z21 z22 z23 b4 b5 b6 b7 b8 b9 a b c d) (w : World) (hS : Kp [b8, b9] u w) (Bb8 : Blk w b8 (arr 4 (fun _ => 0)) 32) (Bb9 : Blk w b9 (arr 4 (fun _ => 0)) 32) :
    wpAnyH Try.prog .any cr1Ops Q (Kp [b8, b9] u) 3 (List.toArray (true :: true :: true :: true :: true :: true :: true :: true :: true :: true :: true :: true :: true :: false :: false :: false :: [])) { tmps := List.toArray ((.agg (arr 4 (limb a))) :: (.agg (arr 4 (limb b))) :: (.agg (arr 4 (limb c))) :: (.agg (arr 4 (limb d))) :: (.pointer (some ⟨b4, 0, none⟩)) :: (.pointer (some ⟨b5, 0, none⟩)) :: (.pointer (some ⟨b6, 0, none⟩)) :: (.pointer (some ⟨b7, 0, none⟩)) :: (.pointer (some ⟨b8, 0, none⟩)) :: (.pointer (some ⟨b9, 0, none⟩)) :: (.agg (arr 4 (limb c))) :: (.agg (arr 4 (limb d))) :: (.agg (arr 4 (limb (am c d)))) :: (.agg (arr 4 (limb a))) :: (.agg (arr 4 (limb b))) :: (.agg (arr 4 (limb (sm a b)))) :: (.agg (arr 4 (limb (mm (am c d) (sm a b))))) :: (.agg (arr 4 (limb c))) :: (.agg (arr 4 (limb d))) :: (.agg (arr 4 (limb (sm c d)))) :: (.agg (arr 4 (limb a))) :: (.agg (arr 4 (limb b))) :: (.agg (arr 4 (limb (am a b)))) :: z23 :: []), defers := [] } w := by
  obtain ⟨hQ, ha, hb, hc, hd, hb4, nb4, hb5, nb5, hb6, nb6, hb7, nb7, hb8, hb9, eb8b9, _⟩ := id C
  refine wpAnyH_ready (rs := [13]) (by kernel_rfl) (by simp) ?_
  refine AllReadyH.cons (o := cr1Op13) rfl (fun K hK => ?_) AllReadyH.nil
  rw [if_pos (by rfl)]
  refine wp_call_val 25 #[.agg (arr 4 (limb (sm c d))), .agg (arr 4 (limb (am a b)))] (by kernel_rfl) (.agg (arr 4 (limb (mm (sm c d) (am a b))))) (mul_c (sm c d) (am a b) _ (sm_lt _ _) (am_lt _ _)) ?_
  intro w' hbw
  have hS' := hS.call hbw
  refine hK.out _ _ hS' (fun _ => ?_)
  exact wpAnyH_at (by kernel_rfl) (by kernel_rfl) (cr1_2 C w' hS' (Bb8.call hbw) (Bb9.call hbw))
set_option maxRecDepth 100000 in
set_option maxHeartbeats 2000000 in
theorem cr1_4 (C : cr1C Q u z10 z11 z12 z13 z14 z15 z16 z17 z18 z19 z20 z21 z22 z23 b4 b5 b6 b7 b8 b9 a b c d) (w : World) (hS : Kp [b8, b9] u w) (Bb8 : Blk w b8 (arr 4 (fun _ => 0)) 32) (Bb9 : Blk w b9 (arr 4 (fun _ => 0)) 32) :
    wpAnyH Try.prog .any cr1Ops Q (Kp [b8, b9] u) 4 (List.toArray (true :: true :: true :: true :: true :: true :: true :: true :: true :: true :: true :: true :: false :: false :: false :: false :: [])) { tmps := List.toArray ((.agg (arr 4 (limb a))) :: (.agg (arr 4 (limb b))) :: (.agg (arr 4 (limb c))) :: (.agg (arr 4 (limb d))) :: (.pointer (some ⟨b4, 0, none⟩)) :: (.pointer (some ⟨b5, 0, none⟩)) :: (.pointer (some ⟨b6, 0, none⟩)) :: (.pointer (some ⟨b7, 0, none⟩)) :: (.pointer (some ⟨b8, 0, none⟩)) :: (.pointer (some ⟨b9, 0, none⟩)) :: (.agg (arr 4 (limb c))) :: (.agg (arr 4 (limb d))) :: (.agg (arr 4 (limb (am c d)))) :: (.agg (arr 4 (limb a))) :: (.agg (arr 4 (limb b))) :: (.agg (arr 4 (limb (sm a b)))) :: (.agg (arr 4 (limb (mm (am c d) (sm a b))))) :: (.agg (arr 4 (limb c))) :: (.agg (arr 4 (limb d))) :: (.agg (arr 4 (limb (sm c d)))) :: (.agg (arr 4 (limb a))) :: (.agg (arr 4 (limb b))) :: z22 :: z23 :: []), defers := [] } w := by
  obtain ⟨hQ, ha, hb, hc, hd, hb4, nb4, hb5, nb5, hb6, nb6, hb7, nb7, hb8, hb9, eb8b9, _⟩ := id C
  refine wpAnyH_ready (rs := [12]) (by kernel_rfl) (by simp) ?_
  refine AllReadyH.cons (o := cr1Op12) rfl (fun K hK => ?_) AllReadyH.nil
  rw [if_pos (by rfl)]
  refine wp_call_val 24 #[.agg (arr 4 (limb a)), .agg (arr 4 (limb b))] (by kernel_rfl) (.agg (arr 4 (limb (am a b)))) (add_c a b _ ha hb) ?_
  intro w' hbw
  have hS' := hS.call hbw
  refine hK.out _ _ hS' (fun _ => ?_)
  exact wpAnyH_at (by kernel_rfl) (by kernel_rfl) (cr1_3 C w' hS' (Bb8.call hbw) (Bb9.call hbw))
set_option maxRecDepth 100000 in
set_option maxHeartbeats 2000000 in
theorem cr1_5 (C : cr1C Q u z10 z11 z12 z13 z14 z15 z16 z17 z18 z19 z20 z21 z22 z23 b4 b5 b6 b7 b8 b9 a b c d) (w : World) (hS : Kp [b8, b9] u w) (Bb8 : Blk w b8 (arr 4 (fun _ => 0)) 32) (Bb9 : Blk w b9 (arr 4 (fun _ => 0)) 32) :
    wpAnyH Try.prog .any cr1Ops Q (Kp [b8, b9] u) 5 (List.toArray (true :: true :: true :: true :: true :: true :: true :: true :: true :: false :: true :: true :: false :: false :: false :: false :: [])) { tmps := List.toArray ((.agg (arr 4 (limb a))) :: (.agg (arr 4 (limb b))) :: (.agg (arr 4 (limb c))) :: (.agg (arr 4 (limb d))) :: (.pointer (some ⟨b4, 0, none⟩)) :: (.pointer (some ⟨b5, 0, none⟩)) :: (.pointer (some ⟨b6, 0, none⟩)) :: (.pointer (some ⟨b7, 0, none⟩)) :: (.pointer (some ⟨b8, 0, none⟩)) :: (.pointer (some ⟨b9, 0, none⟩)) :: (.agg (arr 4 (limb c))) :: (.agg (arr 4 (limb d))) :: (.agg (arr 4 (limb (am c d)))) :: (.agg (arr 4 (limb a))) :: (.agg (arr 4 (limb b))) :: (.agg (arr 4 (limb (sm a b)))) :: (.agg (arr 4 (limb (mm (am c d) (sm a b))))) :: (.agg (arr 4 (limb c))) :: (.agg (arr 4 (limb d))) :: z19 :: (.agg (arr 4 (limb a))) :: (.agg (arr 4 (limb b))) :: z22 :: z23 :: []), defers := [] } w := by
  obtain ⟨hQ, ha, hb, hc, hd, hb4, nb4, hb5, nb5, hb6, nb6, hb7, nb7, hb8, hb9, eb8b9, _⟩ := id C
  refine wpAnyH_ready (rs := [9]) (by kernel_rfl) (by simp) ?_
  refine AllReadyH.cons (o := cr1Op9) rfl (fun K hK => ?_) AllReadyH.nil
  rw [if_pos (by rfl)]
  refine wp_call_val 26 #[.agg (arr 4 (limb c)), .agg (arr 4 (limb d))] (by kernel_rfl) (.agg (arr 4 (limb (sm c d)))) (sub_c c d _ hc hd) ?_
  intro w' hbw
  have hS' := hS.call hbw
  refine hK.out _ _ hS' (fun _ => ?_)
  exact wpAnyH_at (by kernel_rfl) (by kernel_rfl) (cr1_4 C w' hS' (Bb8.call hbw) (Bb9.call hbw))
set_option maxRecDepth 100000 in
set_option maxHeartbeats 2000000 in
theorem cr1_6 (C : cr1C Q u z10 z11 z12 z13 z14 z15 z16 z17 z18 z19 z20 z21 z22 z23 b4 b5 b6 b7 b8 b9 a b c d) (w : World) (hS : Kp [b8, b9] u w) (Bb8 : Blk w b8 (arr 4 (fun _ => 0)) 32) (Bb9 : Blk w b9 (arr 4 (fun _ => 0)) 32) :
    wpAnyH Try.prog .any cr1Ops Q (Kp [b8, b9] u) 6 (List.toArray (true :: true :: true :: true :: true :: true :: false :: true :: true :: false :: true :: true :: false :: false :: false :: false :: [])) { tmps := List.toArray ((.agg (arr 4 (limb a))) :: (.agg (arr 4 (limb b))) :: (.agg (arr 4 (limb c))) :: (.agg (arr 4 (limb d))) :: (.pointer (some ⟨b4, 0, none⟩)) :: (.pointer (some ⟨b5, 0, none⟩)) :: (.pointer (some ⟨b6, 0, none⟩)) :: (.pointer (some ⟨b7, 0, none⟩)) :: (.pointer (some ⟨b8, 0, none⟩)) :: (.pointer (some ⟨b9, 0, none⟩)) :: (.agg (arr 4 (limb c))) :: (.agg (arr 4 (limb d))) :: (.agg (arr 4 (limb (am c d)))) :: (.agg (arr 4 (limb a))) :: (.agg (arr 4 (limb b))) :: (.agg (arr 4 (limb (sm a b)))) :: z16 :: (.agg (arr 4 (limb c))) :: (.agg (arr 4 (limb d))) :: z19 :: (.agg (arr 4 (limb a))) :: (.agg (arr 4 (limb b))) :: z22 :: z23 :: []), defers := [] } w := by
  obtain ⟨hQ, ha, hb, hc, hd, hb4, nb4, hb5, nb5, hb6, nb6, hb7, nb7, hb8, hb9, eb8b9, _⟩ := id C
  refine wpAnyH_ready (rs := [6]) (by kernel_rfl) (by simp) ?_
  refine AllReadyH.cons (o := cr1Op6) rfl (fun K hK => ?_) AllReadyH.nil
  rw [if_pos (by rfl)]
  refine wp_call_val 25 #[.agg (arr 4 (limb (am c d))), .agg (arr 4 (limb (sm a b)))] (by kernel_rfl) (.agg (arr 4 (limb (mm (am c d) (sm a b))))) (mul_c (am c d) (sm a b) _ (am_lt _ _) (sm_lt _ _)) ?_
  intro w' hbw
  have hS' := hS.call hbw
  refine hK.out _ _ hS' (fun _ => ?_)
  exact wpAnyH_at (by kernel_rfl) (by kernel_rfl) (cr1_5 C w' hS' (Bb8.call hbw) (Bb9.call hbw))
set_option maxRecDepth 100000 in
set_option maxHeartbeats 2000000 in
theorem cr1_7 (C : cr1C Q u z10 z11 z12 z13 z14 z15 z16 z17 z18 z19 z20 z21 z22 z23 b4 b5 b6 b7 b8 b9 a b c d) (w : World) (hS : Kp [b8, b9] u w) (Bb8 : Blk w b8 (arr 4 (fun _ => 0)) 32) (Bb9 : Blk w b9 (arr 4 (fun _ => 0)) 32) :
    wpAnyH Try.prog .any cr1Ops Q (Kp [b8, b9] u) 7 (List.toArray (true :: true :: true :: true :: true :: false :: false :: true :: true :: false :: true :: true :: false :: false :: false :: false :: [])) { tmps := List.toArray ((.agg (arr 4 (limb a))) :: (.agg (arr 4 (limb b))) :: (.agg (arr 4 (limb c))) :: (.agg (arr 4 (limb d))) :: (.pointer (some ⟨b4, 0, none⟩)) :: (.pointer (some ⟨b5, 0, none⟩)) :: (.pointer (some ⟨b6, 0, none⟩)) :: (.pointer (some ⟨b7, 0, none⟩)) :: (.pointer (some ⟨b8, 0, none⟩)) :: (.pointer (some ⟨b9, 0, none⟩)) :: (.agg (arr 4 (limb c))) :: (.agg (arr 4 (limb d))) :: (.agg (arr 4 (limb (am c d)))) :: (.agg (arr 4 (limb a))) :: (.agg (arr 4 (limb b))) :: z15 :: z16 :: (.agg (arr 4 (limb c))) :: (.agg (arr 4 (limb d))) :: z19 :: (.agg (arr 4 (limb a))) :: (.agg (arr 4 (limb b))) :: z22 :: z23 :: []), defers := [] } w := by
  obtain ⟨hQ, ha, hb, hc, hd, hb4, nb4, hb5, nb5, hb6, nb6, hb7, nb7, hb8, hb9, eb8b9, _⟩ := id C
  refine wpAnyH_ready (rs := [5]) (by kernel_rfl) (by simp) ?_
  refine AllReadyH.cons (o := cr1Op5) rfl (fun K hK => ?_) AllReadyH.nil
  rw [if_pos (by rfl)]
  refine wp_call_val 26 #[.agg (arr 4 (limb a)), .agg (arr 4 (limb b))] (by kernel_rfl) (.agg (arr 4 (limb (sm a b)))) (sub_c a b _ ha hb) ?_
  intro w' hbw
  have hS' := hS.call hbw
  refine hK.out _ _ hS' (fun _ => ?_)
  exact wpAnyH_at (by kernel_rfl) (by kernel_rfl) (cr1_6 C w' hS' (Bb8.call hbw) (Bb9.call hbw))
set_option maxRecDepth 100000 in
set_option maxHeartbeats 2000000 in
theorem cr1_8 (C : cr1C Q u z10 z11 z12 z13 z14 z15 z16 z17 z18 z19 z20 z21 z22 z23 b4 b5 b6 b7 b8 b9 a b c d) (w : World) (hS : Kp [b8, b9] u w) (Bb8 : Blk w b8 (arr 4 (fun _ => 0)) 32) (Bb9 : Blk w b9 (arr 4 (fun _ => 0)) 32) :
    wpAnyH Try.prog .any cr1Ops Q (Kp [b8, b9] u) 8 (List.toArray (true :: true :: false :: true :: true :: false :: false :: true :: true :: false :: true :: true :: false :: false :: false :: false :: [])) { tmps := List.toArray ((.agg (arr 4 (limb a))) :: (.agg (arr 4 (limb b))) :: (.agg (arr 4 (limb c))) :: (.agg (arr 4 (limb d))) :: (.pointer (some ⟨b4, 0, none⟩)) :: (.pointer (some ⟨b5, 0, none⟩)) :: (.pointer (some ⟨b6, 0, none⟩)) :: (.pointer (some ⟨b7, 0, none⟩)) :: (.pointer (some ⟨b8, 0, none⟩)) :: (.pointer (some ⟨b9, 0, none⟩)) :: (.agg (arr 4 (limb c))) :: (.agg (arr 4 (limb d))) :: z12 :: (.agg (arr 4 (limb a))) :: (.agg (arr 4 (limb b))) :: z15 :: z16 :: (.agg (arr 4 (limb c))) :: (.agg (arr 4 (limb d))) :: z19 :: (.agg (arr 4 (limb a))) :: (.agg (arr 4 (limb b))) :: z22 :: z23 :: []), defers := [] } w := by
  obtain ⟨hQ, ha, hb, hc, hd, hb4, nb4, hb5, nb5, hb6, nb6, hb7, nb7, hb8, hb9, eb8b9, _⟩ := id C
  refine wpAnyH_ready (rs := [2]) (by kernel_rfl) (by simp) ?_
  refine AllReadyH.cons (o := cr1Op2) rfl (fun K hK => ?_) AllReadyH.nil
  rw [if_pos (by rfl)]
  refine wp_call_val 24 #[.agg (arr 4 (limb c)), .agg (arr 4 (limb d))] (by kernel_rfl) (.agg (arr 4 (limb (am c d)))) (add_c c d _ hc hd) ?_
  intro w' hbw
  have hS' := hS.call hbw
  refine hK.out _ _ hS' (fun _ => ?_)
  exact wpAnyH_at (by kernel_rfl) (by kernel_rfl) (cr1_7 C w' hS' (Bb8.call hbw) (Bb9.call hbw))
end
set_option maxRecDepth 100000 in
set_option maxHeartbeats 2000000 in
theorem cr1_region (Q : Exit → Act → World → Prop) (hQ : ∀ c a w n v, Q (.panic c) (a.put (some n) v) w → Q (.panic c) a w) (u : World) (z10 z11 z12 z13 z14 z15 z16 z17 z18 z19 z20 z21 z22 z23 : Value) (b4 b5 b6 b7 b8 b9 : Nat) (a b c d : Nat) (ha : a < pP) (hb : b < pP) (hc : c < pP) (hd : d < pP) (hb4 : Blk u b4 (arr 4 (limb a)) 32) (nb4 : b4 ∉ ([b8, b9] : List Nat)) (hb5 : Blk u b5 (arr 4 (limb b)) 32) (nb5 : b5 ∉ ([b8, b9] : List Nat)) (hb6 : Blk u b6 (arr 4 (limb c)) 32) (nb6 : b6 ∉ ([b8, b9] : List Nat)) (hb7 : Blk u b7 (arr 4 (limb d)) 32) (nb7 : b7 ∉ ([b8, b9] : List Nat)) (hb8 : Blk u b8 (arr 4 (fun _ => 0)) 32) (hb9 : Blk u b9 (arr 4 (fun _ => 0)) 32) (eb8b9 : b8 ≠ b9) (H : ∀ (w : World), Kp [b8, b9] u w → Blk w b8 (arr 4 (limb (mm (am c d) (sm a b)))) 32 → Blk w b9 (arr 4 (limb (mm (sm c d) (am a b)))) 32 → Q .normal { tmps := List.toArray ((.agg (arr 4 (limb a))) :: (.agg (arr 4 (limb b))) :: (.agg (arr 4 (limb c))) :: (.agg (arr 4 (limb d))) :: (.pointer (some ⟨b4, 0, none⟩)) :: (.pointer (some ⟨b5, 0, none⟩)) :: (.pointer (some ⟨b6, 0, none⟩)) :: (.pointer (some ⟨b7, 0, none⟩)) :: (.pointer (some ⟨b8, 0, none⟩)) :: (.pointer (some ⟨b9, 0, none⟩)) :: (.agg (arr 4 (limb c))) :: (.agg (arr 4 (limb d))) :: (.agg (arr 4 (limb (am c d)))) :: (.agg (arr 4 (limb a))) :: (.agg (arr 4 (limb b))) :: (.agg (arr 4 (limb (sm a b)))) :: (.agg (arr 4 (limb (mm (am c d) (sm a b))))) :: (.agg (arr 4 (limb c))) :: (.agg (arr 4 (limb d))) :: (.agg (arr 4 (limb (sm c d)))) :: (.agg (arr 4 (limb a))) :: (.agg (arr 4 (limb b))) :: (.agg (arr 4 (limb (am a b)))) :: (.agg (arr 4 (limb (mm (sm c d) (am a b))))) :: []), defers := [] } w) :
    (Code.region 1 cr1Ops true).wp Try.prog Q { tmps := List.toArray ((.agg (arr 4 (limb a))) :: (.agg (arr 4 (limb b))) :: (.agg (arr 4 (limb c))) :: (.agg (arr 4 (limb d))) :: (.pointer (some ⟨b4, 0, none⟩)) :: (.pointer (some ⟨b5, 0, none⟩)) :: (.pointer (some ⟨b6, 0, none⟩)) :: (.pointer (some ⟨b7, 0, none⟩)) :: (.pointer (some ⟨b8, 0, none⟩)) :: (.pointer (some ⟨b9, 0, none⟩)) :: z10 :: z11 :: z12 :: z13 :: z14 :: z15 :: z16 :: z17 :: z18 :: z19 :: z20 :: z21 :: z22 :: z23 :: []), defers := [] } u := by
  have C : cr1C Q u z10 z11 z12 z13 z14 z15 z16 z17 z18 z19 z20 z21 z22 z23 b4 b5 b6 b7 b8 b9 a b c d := ⟨hQ, ha, hb, hc, hd, hb4, nb4, hb5, nb5, hb6, nb6, hb7, nb7, hb8, hb9, eb8b9, H⟩
  refine wp_region_held_drew (S := (Kp [b8, b9] u)) (by kernel_rfl) (Kp.drew _ u) (fun hS' => ?_)
  refine wpAnyH_take (i := 0) (oi := cr1Op0) (v := .agg (arr 4 (limb c))) rfl (by kernel_rfl) (by kernel_rfl) (by kernel_rfl) (fun _ _ _ => hQ _ _ _ _ _) (yields_S (fun _ h => h.keep _ _ _ nb6 hb6) (by kernel_rfl) 32 _ rfl (by kernel_rfl) _ Try.underlying32 rfl (size_fe _)) hS' ?_
  refine wpAnyH_take (i := 1) (oi := cr1Op1) (v := .agg (arr 4 (limb d))) rfl (by kernel_rfl) (by kernel_rfl) (by kernel_rfl) (fun _ _ _ => hQ _ _ _ _ _) (yields_S (fun _ h => h.keep _ _ _ nb7 hb7) (by kernel_rfl) 32 _ rfl (by kernel_rfl) _ Try.underlying32 rfl (size_fe _)) hS' ?_
  refine wpAnyH_take (i := 3) (oi := cr1Op3) (v := .agg (arr 4 (limb a))) rfl (by kernel_rfl) (by kernel_rfl) (by kernel_rfl) (fun _ _ _ => hQ _ _ _ _ _) (yields_S (fun _ h => h.keep _ _ _ nb4 hb4) (by kernel_rfl) 32 _ rfl (by kernel_rfl) _ Try.underlying32 rfl (size_fe _)) hS' ?_
  refine wpAnyH_at (listed' := (List.toArray (true :: true :: false :: true :: false :: false :: false :: false :: false :: false :: false :: false :: false :: false :: false :: false :: []))) (a' := { tmps := List.toArray ((.agg (arr 4 (limb a))) :: (.agg (arr 4 (limb b))) :: (.agg (arr 4 (limb c))) :: (.agg (arr 4 (limb d))) :: (.pointer (some ⟨b4, 0, none⟩)) :: (.pointer (some ⟨b5, 0, none⟩)) :: (.pointer (some ⟨b6, 0, none⟩)) :: (.pointer (some ⟨b7, 0, none⟩)) :: (.pointer (some ⟨b8, 0, none⟩)) :: (.pointer (some ⟨b9, 0, none⟩)) :: (.agg (arr 4 (limb c))) :: (.agg (arr 4 (limb d))) :: z12 :: (.agg (arr 4 (limb a))) :: z14 :: z15 :: z16 :: z17 :: z18 :: z19 :: z20 :: z21 :: z22 :: z23 :: []), defers := [] }) (by kernel_rfl) (by kernel_rfl) ?_
  refine wpAnyH_take (i := 4) (oi := cr1Op4) (v := .agg (arr 4 (limb b))) rfl (by kernel_rfl) (by kernel_rfl) (by kernel_rfl) (fun _ _ _ => hQ _ _ _ _ _) (yields_S (fun _ h => h.keep _ _ _ nb5 hb5) (by kernel_rfl) 32 _ rfl (by kernel_rfl) _ Try.underlying32 rfl (size_fe _)) hS' ?_
  refine wpAnyH_take (i := 7) (oi := cr1Op7) (v := .agg (arr 4 (limb c))) rfl (by kernel_rfl) (by kernel_rfl) (by kernel_rfl) (fun _ _ _ => hQ _ _ _ _ _) (yields_S (fun _ h => h.keep _ _ _ nb6 hb6) (by kernel_rfl) 32 _ rfl (by kernel_rfl) _ Try.underlying32 rfl (size_fe _)) hS' ?_
  refine wpAnyH_take (i := 8) (oi := cr1Op8) (v := .agg (arr 4 (limb d))) rfl (by kernel_rfl) (by kernel_rfl) (by kernel_rfl) (fun _ _ _ => hQ _ _ _ _ _) (yields_S (fun _ h => h.keep _ _ _ nb7 hb7) (by kernel_rfl) 32 _ rfl (by kernel_rfl) _ Try.underlying32 rfl (size_fe _)) hS' ?_
  refine wpAnyH_at (listed' := (List.toArray (true :: true :: false :: true :: true :: false :: false :: true :: true :: false :: false :: false :: false :: false :: false :: false :: []))) (a' := { tmps := List.toArray ((.agg (arr 4 (limb a))) :: (.agg (arr 4 (limb b))) :: (.agg (arr 4 (limb c))) :: (.agg (arr 4 (limb d))) :: (.pointer (some ⟨b4, 0, none⟩)) :: (.pointer (some ⟨b5, 0, none⟩)) :: (.pointer (some ⟨b6, 0, none⟩)) :: (.pointer (some ⟨b7, 0, none⟩)) :: (.pointer (some ⟨b8, 0, none⟩)) :: (.pointer (some ⟨b9, 0, none⟩)) :: (.agg (arr 4 (limb c))) :: (.agg (arr 4 (limb d))) :: z12 :: (.agg (arr 4 (limb a))) :: (.agg (arr 4 (limb b))) :: z15 :: z16 :: (.agg (arr 4 (limb c))) :: (.agg (arr 4 (limb d))) :: z19 :: z20 :: z21 :: z22 :: z23 :: []), defers := [] }) (by kernel_rfl) (by kernel_rfl) ?_
  refine wpAnyH_take (i := 10) (oi := cr1Op10) (v := .agg (arr 4 (limb a))) rfl (by kernel_rfl) (by kernel_rfl) (by kernel_rfl) (fun _ _ _ => hQ _ _ _ _ _) (yields_S (fun _ h => h.keep _ _ _ nb4 hb4) (by kernel_rfl) 32 _ rfl (by kernel_rfl) _ Try.underlying32 rfl (size_fe _)) hS' ?_
  refine wpAnyH_take (i := 11) (oi := cr1Op11) (v := .agg (arr 4 (limb b))) rfl (by kernel_rfl) (by kernel_rfl) (by kernel_rfl) (fun _ _ _ => hQ _ _ _ _ _) (yields_S (fun _ h => h.keep _ _ _ nb5 hb5) (by kernel_rfl) 32 _ rfl (by kernel_rfl) _ Try.underlying32 rfl (size_fe _)) hS' ?_
  exact wpAnyH_at (by kernel_rfl) (by kernel_rfl) (cr1_8 C u.drew hS' hb8.drew hb9.drew)
theorem not_two {b x y : Nat} (h1 : b ≠ x) (h2 : b ≠ y) : b ∉ ([x, y] : List Nat) := by simp [h1, h2]
set_option maxRecDepth 100000 in
set_option maxHeartbeats 1000000 in
theorem crossed_c (a b c d : Nat) (w : World) (ha : a < pP) (hb : b < pP) (hc : c < pP) (hd : d < pP) :
    Ret 21 #[.agg (arr 4 (limb a)), .agg (arr 4 (limb b)), .agg (arr 4 (limb c)), .agg (arr 4 (limb d))] w (.tuple #[.agg (arr 4 (limb (mm (am c d) (sm a b)))), .agg (arr 4 (limb (mm (sm c d) (am a b))))]) := by
  go_enter Try.func21, Try.ntmps21
  go_upto_region 0 with (fail)
  refine cr0_region _ (fun _ _ _ _ _ h => h) w _ _ _ _ _ _ _ a b c d ?_
  intro n4 n5 n6 n7 n8 n9 w1 hK gn4 Bn4 gn5 Bn5 gn6 Bn6 gn7 Bn7 gn8 Bn8 gn9 Bn9 en4n5 en4n6 en4n7 en4n8 en4n9 en5n6 en5n7 en5n8 en5n9 en6n7 en6n8 en6n9 en7n8 en7n9 en8n9
  have hL := hK.below w _ (Nat.le_refl _) (Below.refl _ w)
  go_upto_region 1 with (fail)
  refine cr1_region _ (fun _ _ _ _ _ h => h) w1 _ _ _ _ _ _ _ _ _ _ _ _ _ _ n4 n5 n6 n7 n8 n9 a b c d ha hb hc hd Bn4 (not_two en4n8 en4n9) Bn5 (not_two en5n8 en5n9) Bn6 (not_two en6n8 en6n9) Bn7 (not_two en7n8 en7n9) Bn8 Bn9 en8n9 ?_
  intro w2 hK2 C8 C9
  go_wp2_with fail
  refine bodyPost_ret (v := .tuple #[.agg (arr 4 (limb (mm (am c d) (sm a b)))), .agg (arr 4 (limb (mm (sm c d) (am a b))))]) (results_two Try.results21 _ _ n8 n9 32 32 _ _ (0, 0) (0, 0) _ _ rfl C8 Try.underlying32 rfl (size_fe _) rfl C9 Try.underlying32 rfl (size_fe _)) rfl ⟨rfl, ?_⟩
  exact hK2.low _ _ (by intro x hx; simp at hx; omega) hK.size hL
end Go.Proofs.Ytidhffaphbiapaa

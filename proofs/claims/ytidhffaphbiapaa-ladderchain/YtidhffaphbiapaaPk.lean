/- Walks: LadderMeets, LadderChain. -/
import Derived.Test.YtidhffaphbiapaaPj
namespace Go.Proofs.Ytidhffaphbiapaa
open F Go.RowKit

theorem eql_t {ρ : Operand → Value} {o : Oper} (x y : Operand) (f g : Nat → Nat) (w : World) (ho : o.op = .binOp .eql 22 x y 22) (hx : ρ x = .agg (vals .u8 32 f)) (hy : ρ y = .agg (vals .u8 32 g)) (h : sameB f g = true) : (execOp ρ o).run Try.prog w = .ok (.value (.bool true)) w := by
  rw [eql_c x y f g w ho hx hy, h]
def me0Op0 : Oper := { dst := some 2, op := Op.box 22 (Operand.tmp 0), type := 0, pos := "law.go:30", after := #[], guard := none }
def me0Op1 : Oper := { dst := some 3, op := Op.box 22 (Operand.tmp 1), type := 0, pos := "law.go:30", after := #[], guard := none }
def me0Op2 : Oper := { dst := some 4, op := Op.assign (Operand.const (Value.bool false)), type := 4, pos := "law.go:30", after := #[], guard := none }
def me0Ops : Array Oper := #[me0Op0, me0Op1, me0Op2]
set_option maxRecDepth 100000 in
set_option maxHeartbeats 2000000 in
theorem me0_region (Q : Exit → Act → World → Prop) (hQ : ∀ c a w n v, Q (.panic c) (a.put (some n) v) w → Q (.panic c) a w) (u : World) (z2 z3 z4 : Value) (zz : List Value) (f g : Nat → Nat) (H : ∀ (n2 : Nat) (n3 : Nat) (w : World), Kp [] u w → u.heap.size ≤ n2 → Blk w n2 (vals .u8 32 f) 22 → u.heap.size ≤ n3 → Blk w n3 (vals .u8 32 g) 22 → n2 ≠ n3 → Q .normal { tmps := List.toArray ((.agg (vals .u8 32 f)) :: (.agg (vals .u8 32 g)) :: (.pointer (some ⟨n2, 0, none⟩)) :: (.pointer (some ⟨n3, 0, none⟩)) :: (.bool false) :: zz), defers := [] } w) :
    (Code.region 0 me0Ops false).wp Try.prog Q { tmps := List.toArray ((.agg (vals .u8 32 f)) :: (.agg (vals .u8 32 g)) :: z2 :: z3 :: z4 :: zz), defers := [] } u := by
  have _ := hQ
  have _ := u
  have _ := z2
  have _ := z3
  have _ := z4
  have _ := zz
  have _ := f
  have _ := g
  refine wp_region_list (show wpList _ me0Ops _ [me0Op0, me0Op1, me0Op2] _ _ from ?_)
  have hS : Kp [] u u := Kp.refl _ u
  refine wpList_plain rfl (fun K hK => ?_)
  refine wp_new _ 22 (box_by _ _ _ _ f rfl (by kernel_rfl)) ?_
  intro n2 w0 eb Bn2 hbw
  have hS' := hS.call hbw
  refine hK _ _ ?_
  clear hK K
  have qgn2 : u.heap.size ≤ n2 := (by rw [eb]; exact hS.size)
  have qBn2 : Blk w0 n2 (vals .u8 32 f) 22 := Bn2
  clear hS
  have gn2 := qgn2
  have Bn2 := qBn2
  have hS := hS'
  clear hS' qgn2 qBn2
  refine wpList_fr (a' := { tmps := List.toArray ((.agg (vals .u8 32 f)) :: (.agg (vals .u8 32 g)) :: (.pointer (some ⟨n2, 0, none⟩)) :: z3 :: z4 :: zz), defers := [] }) (by kernel_rfl) ?_
  refine wpList_plain rfl (fun K hK => ?_)
  refine wp_new _ 22 (box_by _ _ _ _ g rfl (by kernel_rfl)) ?_
  intro n3 w1 eb Bn3 hbw
  have hS' := hS.call hbw
  refine hK _ _ ?_
  clear hK K
  have qgn2 : u.heap.size ≤ n2 := gn2
  have qBn2 : Blk w1 n2 (vals .u8 32 f) 22 := (Bn2.call hbw)
  have qgn3 : u.heap.size ≤ n3 := (by rw [eb]; exact hS.size)
  have qBn3 : Blk w1 n3 (vals .u8 32 g) 22 := Bn3
  have qen2n3 : n2 ≠ n3 := (by rw [eb]; exact Nat.ne_of_lt Bn2.lt)
  clear hS gn2 Bn2
  have gn2 := qgn2
  have Bn2 := qBn2
  have gn3 := qgn3
  have Bn3 := qBn3
  have en2n3 := qen2n3
  have hS := hS'
  clear hS' qgn2 qBn2 qgn3 qBn3 qen2n3
  refine wpList_fr (a' := { tmps := List.toArray ((.agg (vals .u8 32 f)) :: (.agg (vals .u8 32 g)) :: (.pointer (some ⟨n2, 0, none⟩)) :: (.pointer (some ⟨n3, 0, none⟩)) :: z4 :: zz), defers := [] }) (by kernel_rfl) ?_
  refine wpList_plain rfl (fun K hK => ?_)
  refine wp_val (.bool false) (by kernel_rfl) ?_
  have hS' := hS
  refine hK _ _ ?_
  clear hK K
  have qgn2 : u.heap.size ≤ n2 := gn2
  have qBn2 : Blk w1 n2 (vals .u8 32 f) 22 := Bn2
  have qgn3 : u.heap.size ≤ n3 := gn3
  have qBn3 : Blk w1 n3 (vals .u8 32 g) 22 := Bn3
  have qen2n3 : n2 ≠ n3 := en2n3
  clear hS gn2 Bn2 gn3 Bn3 en2n3
  have gn2 := qgn2
  have Bn2 := qBn2
  have gn3 := qgn3
  have Bn3 := qBn3
  have en2n3 := qen2n3
  have hS := hS'
  clear hS' qgn2 qBn2 qgn3 qBn3 qen2n3
  refine wpList_fr (a' := { tmps := List.toArray ((.agg (vals .u8 32 f)) :: (.agg (vals .u8 32 g)) :: (.pointer (some ⟨n2, 0, none⟩)) :: (.pointer (some ⟨n3, 0, none⟩)) :: (.bool false) :: zz), defers := [] }) (by kernel_rfl) ?_
  refine wpList_nil ?_
  exact H n2 n3 w1 hS gn2 Bn2 gn3 Bn3 en2n3
def me1Op0 : Oper := { dst := some 10, op := Op.call { callee := Callee.value (Operand.func 8), args := #[], argTypes := #[] }, type := 4, pos := "law.go:31", after := #[], guard := none }
def me1Op1 : Oper := { dst := some 5, op := Op.assign (Operand.tmp 10), type := 4, pos := "law.go:31", after := #[{ on := 0, ground := Ground.data }, { on := 0, ground := Ground.chain }, { on := 0, ground := Ground.phase }], guard := none }
def me1Ops : Array Oper := #[me1Op0, me1Op1]
set_option maxRecDepth 100000 in
set_option maxHeartbeats 2000000 in
theorem me1_region (Q : Exit → Act → World → Prop) (hQ : ∀ c a w n v, Q (.panic c) (a.put (some n) v) w → Q (.panic c) a w) (u : World) (z0 z1 z2 z3 z4 z5 z6 z7 z8 z9 z10 : Value) (zz : List Value) (H : ∀ (w : World), Kp [] u w → Q .normal { tmps := List.toArray (z0 :: z1 :: z2 :: z3 :: z4 :: (.bool true) :: z6 :: z7 :: z8 :: z9 :: (.bool true) :: zz), defers := [] } w) :
    (Code.region 1 me1Ops false).wp Try.prog Q { tmps := List.toArray (z0 :: z1 :: z2 :: z3 :: z4 :: z5 :: z6 :: z7 :: z8 :: z9 :: z10 :: zz), defers := [] } u := by
  have _ := hQ
  have _ := u
  have _ := z0
  have _ := z1
  have _ := z2
  have _ := z3
  have _ := z4
  have _ := z5
  have _ := z6
  have _ := z7
  have _ := z8
  have _ := z9
  have _ := z10
  have _ := zz
  refine wp_region_list (show wpList _ me1Ops _ [me1Op0, me1Op1] _ _ from ?_)
  have hS : Kp [] u u := Kp.refl _ u
  refine wpList_plain rfl (fun K hK => ?_)
  refine wp_call_val 8 #[] (by kernel_rfl) (.bool true) (awake_c _) ?_
  intro w0 hbw
  have hS' := hS.call hbw
  refine hK _ _ ?_
  clear hK K
  clear hS
  have hS := hS'
  clear hS'
  refine wpList_fr (a' := { tmps := List.toArray (z0 :: z1 :: z2 :: z3 :: z4 :: z5 :: z6 :: z7 :: z8 :: z9 :: (.bool true) :: zz), defers := [] }) (by kernel_rfl) ?_
  refine wpList_plain rfl (fun K hK => ?_)
  refine wp_val (.bool true) (by kernel_rfl) ?_
  have hS' := hS
  refine hK _ _ ?_
  clear hK K
  clear hS
  have hS := hS'
  clear hS'
  refine wpList_fr (a' := { tmps := List.toArray (z0 :: z1 :: z2 :: z3 :: z4 :: (.bool true) :: z6 :: z7 :: z8 :: z9 :: (.bool true) :: zz), defers := [] }) (by kernel_rfl) ?_
  refine wpList_nil ?_
  exact H  w0 hS 
def me2Op0 : Oper := { dst := some 12, op := Op.load 22 (Operand.tmp 2), type := 22, pos := "law.go:32", after := #[], guard := none }
def me2Op1 : Oper := { dst := some 13, op := Op.load 22 (Operand.tmp 3), type := 22, pos := "law.go:32", after := #[], guard := none }
def me2Op2 : Oper := { dst := some 14, op := Op.call { callee := Callee.value (Operand.func 12), args := #[Operand.tmp 13], argTypes := #[22] }, type := 22, pos := "law.go:32", after := #[{ on := 1, ground := Ground.data }], guard := none }
def me2Op3 : Oper := { dst := some 15, op := Op.call { callee := Callee.value (Operand.func 11), args := #[Operand.tmp 12, Operand.tmp 14], argTypes := #[22, 22] }, type := 25, pos := "law.go:32", after := #[{ on := 0, ground := Ground.data }, { on := 2, ground := Ground.data }, { on := 2, ground := Ground.chain }], guard := none }
def me2Op4 : Oper := { dst := some 11, op := Op.move (Operand.tmp 15), type := 25, pos := "law.go:32", after := #[{ on := 3, ground := Ground.data }], guard := none }
def me2Op5 : Oper := { dst := some 16, op := Op.extract (Operand.tmp 11) 0, type := 22, pos := "law.go:32", after := #[{ on := 4, ground := Ground.data }], guard := none }
def me2Op6 : Oper := { dst := some 17, op := Op.extract (Operand.tmp 11) 1, type := 4, pos := "law.go:32", after := #[{ on := 4, ground := Ground.data }, { on := 8, ground := Ground.gcOnly Departure.lateStores }], guard := none }
def me2Op7 : Oper := { dst := some 6, op := Op.alloc 22, type := 0, pos := "law.go:32", after := #[], guard := none }
def me2Op8 : Oper := { dst := none, op := Op.store 22 (Operand.tmp 6) (Operand.tmp 16), type := 0, pos := "law.go:32", after := #[{ on := 7, ground := Ground.data }, { on := 5, ground := Ground.data }, { on := 3, ground := Ground.chain }, { on := 0, ground := Ground.phase }, { on := 1, ground := Ground.phase }, { on := 2, ground := Ground.phase }, { on := 3, ground := Ground.phase }, { on := 4, ground := Ground.phase }, { on := 5, ground := Ground.phase }, { on := 6, ground := Ground.textOnly Departure.lateStores }, { on := 7, ground := Ground.phase }], guard := none }
def me2Op9 : Oper := { dst := some 7, op := Op.assign (Operand.tmp 17), type := 4, pos := "law.go:32", after := #[{ on := 6, ground := Ground.data }, { on := 8, ground := Ground.chain }, { on := 0, ground := Ground.phase }, { on := 1, ground := Ground.phase }, { on := 2, ground := Ground.phase }, { on := 3, ground := Ground.phase }, { on := 4, ground := Ground.phase }, { on := 5, ground := Ground.phase }, { on := 6, ground := Ground.phase }, { on := 7, ground := Ground.phase }, { on := 8, ground := Ground.phase }], guard := none }
def me2Ops : Array Oper := #[me2Op0, me2Op1, me2Op2, me2Op3, me2Op4, me2Op5, me2Op6, me2Op7, me2Op8, me2Op9]
structure me2C (Q : Exit → Act → World → Prop) (u : World) (z0 z1 z4 z5 z6 z7 z8 z9 z10 z11 z12 z13 z14 z15 z16 z17 : Value) (zz : List Value) (b2 b3 : Nat) (f g : Nat → Nat) : Prop where
  hQ : ∀ c a w n v, Q (.panic c) (a.put (some n) v) w → Q (.panic c) a w
  hf : ∀ i, f i < 256
  hg : ∀ i, g i < 256
  hb2 : Blk u b2 (vals .u8 32 f) 22
  nb2 : b2 ∉ ([] : List Nat)
  hb3 : Blk u b3 (vals .u8 32 g) 22
  nb3 : b3 ∉ ([] : List Nat)
  H : ∀ (n6 : Nat) (w : World), Kp [] u w → u.heap.size ≤ n6 → Blk w n6 (vals .u8 32 (byt (xm f (byt (xm g nineB))))) 22 → Q .normal { tmps := List.toArray (z0 :: z1 :: (.pointer (some ⟨b2, 0, none⟩)) :: (.pointer (some ⟨b3, 0, none⟩)) :: z4 :: z5 :: (.pointer (some ⟨n6, 0, none⟩)) :: (.bool (decide (xm f (byt (xm g nineB)) ≠ 0))) :: z8 :: z9 :: z10 :: (.tuple #[.agg (vals .u8 32 (byt (xm f (byt (xm g nineB))))), .bool (decide (xm f (byt (xm g nineB)) ≠ 0))]) :: (.agg (vals .u8 32 f)) :: (.agg (vals .u8 32 g)) :: (.agg (vals .u8 32 (byt (xm g nineB)))) :: (.tuple #[.agg (vals .u8 32 (byt (xm f (byt (xm g nineB))))), .bool (decide (xm f (byt (xm g nineB)) ≠ 0))]) :: (.agg (vals .u8 32 (byt (xm f (byt (xm g nineB)))))) :: (.bool (decide (xm f (byt (xm g nineB)) ≠ 0))) :: zz), defers := [] } w
section
variable {Q : Exit → Act → World → Prop} {u : World} {z0 z1 z4 z5 z6 z7 z8 z9 z10 z11 z12 z13 z14 z15 z16 z17 : Value} {zz : List Value} {b2 b3 : Nat} {f g : Nat → Nat}
set_option maxRecDepth 100000 in
set_option maxHeartbeats 2000000 in
theorem me2_0 (C : me2C Q u z0 z1 z4 z5 z6 z7 z8 z9 z10 z11 z12 z13 z14 z15 z16 z17 zz b2 b3 f g) {n6 : Nat} (w : World) (hS : Kp [] u w) (gn6 : u.heap.size ≤ n6) (Bn6 : Blk w n6 (vals .u8 32 (byt (xm f (byt (xm g nineB))))) 22) :
    wpAnyH Try.prog .any me2Ops Q (Kp [] u) 0 (List.toArray (true :: true :: true :: true :: true :: true :: true :: true :: true :: true :: [])) { tmps := List.toArray (z0 :: z1 :: (.pointer (some ⟨b2, 0, none⟩)) :: (.pointer (some ⟨b3, 0, none⟩)) :: z4 :: z5 :: (.pointer (some ⟨n6, 0, none⟩)) :: (.bool (decide (xm f (byt (xm g nineB)) ≠ 0))) :: z8 :: z9 :: z10 :: (.tuple #[.agg (vals .u8 32 (byt (xm f (byt (xm g nineB))))), .bool (decide (xm f (byt (xm g nineB)) ≠ 0))]) :: (.agg (vals .u8 32 f)) :: (.agg (vals .u8 32 g)) :: (.agg (vals .u8 32 (byt (xm g nineB)))) :: (.tuple #[.agg (vals .u8 32 (byt (xm f (byt (xm g nineB))))), .bool (decide (xm f (byt (xm g nineB)) ≠ 0))]) :: (.agg (vals .u8 32 (byt (xm f (byt (xm g nineB)))))) :: (.bool (decide (xm f (byt (xm g nineB)) ≠ 0))) :: zz), defers := [] } w := by
  exact wpAnyH_done (by kernel_rfl) (C.H n6 w hS gn6 Bn6) _
set_option maxRecDepth 100000 in
set_option maxHeartbeats 2000000 in
theorem me2_1 (C : me2C Q u z0 z1 z4 z5 z6 z7 z8 z9 z10 z11 z12 z13 z14 z15 z16 z17 zz b2 b3 f g) {n6 : Nat} (w : World) (hS : Kp [] u w) (gn6 : u.heap.size ≤ n6) (Bn6 : Blk w n6 (vals .u8 32 (fun _ => 0)) 22) :
    wpAnyH Try.prog .any me2Ops Q (Kp [] u) 2 (List.toArray (true :: true :: true :: true :: true :: true :: true :: true :: false :: false :: [])) { tmps := List.toArray (z0 :: z1 :: (.pointer (some ⟨b2, 0, none⟩)) :: (.pointer (some ⟨b3, 0, none⟩)) :: z4 :: z5 :: (.pointer (some ⟨n6, 0, none⟩)) :: z7 :: z8 :: z9 :: z10 :: (.tuple #[.agg (vals .u8 32 (byt (xm f (byt (xm g nineB))))), .bool (decide (xm f (byt (xm g nineB)) ≠ 0))]) :: (.agg (vals .u8 32 f)) :: (.agg (vals .u8 32 g)) :: (.agg (vals .u8 32 (byt (xm g nineB)))) :: (.tuple #[.agg (vals .u8 32 (byt (xm f (byt (xm g nineB))))), .bool (decide (xm f (byt (xm g nineB)) ≠ 0))]) :: (.agg (vals .u8 32 (byt (xm f (byt (xm g nineB)))))) :: (.bool (decide (xm f (byt (xm g nineB)) ≠ 0))) :: zz), defers := [] } w := by
  obtain ⟨hQ, hf, hg, hb2, nb2, hb3, nb3, _⟩ := id C
  refine wpAnyH_ready (rs := [8]) (by kernel_rfl) (by simp) ?_
  refine AllReadyH.cons (o := me2Op8) rfl (fun K hK => ?_) AllReadyH.nil
  rw [if_pos (by rfl)]
  refine wp_store_row 22 _ _ rfl n6 (vals .u8 32 (byt (xm f (byt (xm g nineB))))) (by kernel_rfl) (by kernel_rfl) 22 _ Bn6 (size_by _) (by rw [vals_size, vals_size]) (vals_one _ _ _) ?_
  have hS' := hS.new gn6 (vals .u8 32 (byt (xm f (byt (xm g nineB)))))
  refine hK.out _ _ hS' (fun _ => ?_)
  refine wpAnyH_take (i := 9) (oi := me2Op9) (v := .bool (decide (xm f (byt (xm g nineB)) ≠ 0))) rfl (by kernel_rfl) (by kernel_rfl) (by kernel_rfl) (fun _ _ _ => hQ _ _ _ _ _) (Or.inl ⟨by kernel_rfl, fun _ _ => by kernel_rfl⟩) hS' ?_
  exact wpAnyH_at (by kernel_rfl) (by kernel_rfl) (me2_0 C (w.setRow n6 (vals .u8 32 (byt (xm f (byt (xm g nineB)))))) hS' gn6 (Bn6.row (vals .u8 32 (byt (xm f (byt (xm g nineB)))))))
set_option maxRecDepth 100000 in
set_option maxHeartbeats 2000000 in
theorem me2_2 (C : me2C Q u z0 z1 z4 z5 z6 z7 z8 z9 z10 z11 z12 z13 z14 z15 z16 z17 zz b2 b3 f g) (w : World) (hS : Kp [] u w) :
    wpAnyH Try.prog .any me2Ops Q (Kp [] u) 3 (List.toArray (true :: true :: true :: true :: true :: true :: true :: false :: false :: false :: [])) { tmps := List.toArray (z0 :: z1 :: (.pointer (some ⟨b2, 0, none⟩)) :: (.pointer (some ⟨b3, 0, none⟩)) :: z4 :: z5 :: z6 :: z7 :: z8 :: z9 :: z10 :: (.tuple #[.agg (vals .u8 32 (byt (xm f (byt (xm g nineB))))), .bool (decide (xm f (byt (xm g nineB)) ≠ 0))]) :: (.agg (vals .u8 32 f)) :: (.agg (vals .u8 32 g)) :: (.agg (vals .u8 32 (byt (xm g nineB)))) :: (.tuple #[.agg (vals .u8 32 (byt (xm f (byt (xm g nineB))))), .bool (decide (xm f (byt (xm g nineB)) ≠ 0))]) :: (.agg (vals .u8 32 (byt (xm f (byt (xm g nineB)))))) :: (.bool (decide (xm f (byt (xm g nineB)) ≠ 0))) :: zz), defers := [] } w := by
  obtain ⟨hQ, hf, hg, hb2, nb2, hb3, nb3, _⟩ := id C
  refine wpAnyH_ready (rs := [7]) (by kernel_rfl) (by simp) ?_
  refine AllReadyH.cons (o := me2Op7) rfl (fun K hK => ?_) AllReadyH.nil
  rw [if_pos (by rfl)]
  refine wp_new _ 22 (alloc_by _ _ _ rfl) ?_
  intro n6 w' eb Bn6 hbw
  have hS' := hS.call hbw
  refine hK.out _ _ hS' (fun _ => ?_)
  exact wpAnyH_at (by kernel_rfl) (by kernel_rfl) (me2_1 C w' hS' (by rw [eb]; exact hS.size) Bn6)
set_option maxRecDepth 100000 in
set_option maxHeartbeats 2000000 in
theorem me2_3 (C : me2C Q u z0 z1 z4 z5 z6 z7 z8 z9 z10 z11 z12 z13 z14 z15 z16 z17 zz b2 b3 f g) {n6 : Nat} (w : World) (hS : Kp [] u w) (gn6 : u.heap.size ≤ n6) (Bn6 : Blk w n6 (vals .u8 32 (fun _ => 0)) 22) :
    wpAnyH Try.prog .any me2Ops Q (Kp [] u) 6 (List.toArray (true :: true :: true :: false :: false :: false :: false :: true :: false :: false :: [])) { tmps := List.toArray (z0 :: z1 :: (.pointer (some ⟨b2, 0, none⟩)) :: (.pointer (some ⟨b3, 0, none⟩)) :: z4 :: z5 :: (.pointer (some ⟨n6, 0, none⟩)) :: z7 :: z8 :: z9 :: z10 :: z11 :: (.agg (vals .u8 32 f)) :: (.agg (vals .u8 32 g)) :: (.agg (vals .u8 32 (byt (xm g nineB)))) :: z15 :: z16 :: z17 :: zz), defers := [] } w := by
  obtain ⟨hQ, hf, hg, hb2, nb2, hb3, nb3, _⟩ := id C
  refine wpAnyH_ready (rs := [3]) (by kernel_rfl) (by simp) ?_
  refine AllReadyH.cons (o := me2Op3) rfl (fun K hK => ?_) AllReadyH.nil
  rw [if_pos (by rfl)]
  refine wp_call_val 11 #[.agg (vals .u8 32 f), .agg (vals .u8 32 (byt (xm g nineB)))] (by kernel_rfl) (.tuple #[.agg (vals .u8 32 (byt (xm f (byt (xm g nineB))))), .bool (decide (xm f (byt (xm g nineB)) ≠ 0))]) (shared_c f (byt (xm g nineB)) _ hf (byt_lt _)) ?_
  intro w' hbw
  have hS' := hS.call hbw
  refine hK.out _ _ hS' (fun _ => ?_)
  refine wpAnyH_take (i := 4) (oi := me2Op4) (v := .tuple #[.agg (vals .u8 32 (byt (xm f (byt (xm g nineB))))), .bool (decide (xm f (byt (xm g nineB)) ≠ 0))]) rfl (by kernel_rfl) (by kernel_rfl) (by kernel_rfl) (fun _ _ _ => hQ _ _ _ _ _) (Or.inl ⟨by kernel_rfl, fun _ _ => by kernel_rfl⟩) hS' ?_
  refine wpAnyH_take (i := 5) (oi := me2Op5) (v := .agg (vals .u8 32 (byt (xm f (byt (xm g nineB)))))) rfl (by kernel_rfl) (by kernel_rfl) (by kernel_rfl) (fun _ _ _ => hQ _ _ _ _ _) (Or.inl ⟨by kernel_rfl, fun _ _ => by kernel_rfl⟩) hS' ?_
  refine wpAnyH_take (i := 6) (oi := me2Op6) (v := .bool (decide (xm f (byt (xm g nineB)) ≠ 0))) rfl (by kernel_rfl) (by kernel_rfl) (by kernel_rfl) (fun _ _ _ => hQ _ _ _ _ _) (Or.inl ⟨by kernel_rfl, fun _ _ => by kernel_rfl⟩) hS' ?_
  exact wpAnyH_at (by kernel_rfl) (by kernel_rfl) (me2_1 C w' hS' gn6 (Bn6.call hbw))
set_option maxRecDepth 100000 in
set_option maxHeartbeats 2000000 in
theorem me2_4 (C : me2C Q u z0 z1 z4 z5 z6 z7 z8 z9 z10 z11 z12 z13 z14 z15 z16 z17 zz b2 b3 f g) {n6 : Nat} (w : World) (hS : Kp [] u w) (gn6 : u.heap.size ≤ n6) (Bn6 : Blk w n6 (vals .u8 32 (fun _ => 0)) 22) :
    wpAnyH Try.prog .any me2Ops Q (Kp [] u) 7 (List.toArray (true :: true :: false :: false :: false :: false :: false :: true :: false :: false :: [])) { tmps := List.toArray (z0 :: z1 :: (.pointer (some ⟨b2, 0, none⟩)) :: (.pointer (some ⟨b3, 0, none⟩)) :: z4 :: z5 :: (.pointer (some ⟨n6, 0, none⟩)) :: z7 :: z8 :: z9 :: z10 :: z11 :: (.agg (vals .u8 32 f)) :: (.agg (vals .u8 32 g)) :: z14 :: z15 :: z16 :: z17 :: zz), defers := [] } w := by
  obtain ⟨hQ, hf, hg, hb2, nb2, hb3, nb3, _⟩ := id C
  refine wpAnyH_ready (rs := [2]) (by kernel_rfl) (by simp) ?_
  refine AllReadyH.cons (o := me2Op2) rfl (fun K hK => ?_) AllReadyH.nil
  rw [if_pos (by rfl)]
  refine wp_call_val 12 #[.agg (vals .u8 32 g)] (by kernel_rfl) (.agg (vals .u8 32 (byt (xm g nineB)))) (public_c g _ hg) ?_
  intro w' hbw
  have hS' := hS.call hbw
  refine hK.out _ _ hS' (fun _ => ?_)
  exact wpAnyH_at (by kernel_rfl) (by kernel_rfl) (me2_3 C w' hS' gn6 (Bn6.call hbw))
set_option maxRecDepth 100000 in
set_option maxHeartbeats 2000000 in
theorem me2_5 (C : me2C Q u z0 z1 z4 z5 z6 z7 z8 z9 z10 z11 z12 z13 z14 z15 z16 z17 zz b2 b3 f g) (w : World) (hS : Kp [] u w) :
    wpAnyH Try.prog .any me2Ops Q (Kp [] u) 7 (List.toArray (true :: true :: true :: false :: false :: false :: false :: false :: false :: false :: [])) { tmps := List.toArray (z0 :: z1 :: (.pointer (some ⟨b2, 0, none⟩)) :: (.pointer (some ⟨b3, 0, none⟩)) :: z4 :: z5 :: z6 :: z7 :: z8 :: z9 :: z10 :: z11 :: (.agg (vals .u8 32 f)) :: (.agg (vals .u8 32 g)) :: (.agg (vals .u8 32 (byt (xm g nineB)))) :: z15 :: z16 :: z17 :: zz), defers := [] } w := by
  obtain ⟨hQ, hf, hg, hb2, nb2, hb3, nb3, _⟩ := id C
  refine wpAnyH_ready (rs := [3, 7]) (by kernel_rfl) (by simp) ?_
  refine AllReadyH.cons (o := me2Op3) rfl (fun K hK => ?_) ?_
  · skip
    rw [if_pos (by rfl)]
    refine wp_call_val 11 #[.agg (vals .u8 32 f), .agg (vals .u8 32 (byt (xm g nineB)))] (by kernel_rfl) (.tuple #[.agg (vals .u8 32 (byt (xm f (byt (xm g nineB))))), .bool (decide (xm f (byt (xm g nineB)) ≠ 0))]) (shared_c f (byt (xm g nineB)) _ hf (byt_lt _)) ?_
    intro w' hbw
    have hS' := hS.call hbw
    refine hK.out _ _ hS' (fun _ => ?_)
    refine wpAnyH_take (i := 4) (oi := me2Op4) (v := .tuple #[.agg (vals .u8 32 (byt (xm f (byt (xm g nineB))))), .bool (decide (xm f (byt (xm g nineB)) ≠ 0))]) rfl (by kernel_rfl) (by kernel_rfl) (by kernel_rfl) (fun _ _ _ => hQ _ _ _ _ _) (Or.inl ⟨by kernel_rfl, fun _ _ => by kernel_rfl⟩) hS' ?_
    refine wpAnyH_take (i := 5) (oi := me2Op5) (v := .agg (vals .u8 32 (byt (xm f (byt (xm g nineB)))))) rfl (by kernel_rfl) (by kernel_rfl) (by kernel_rfl) (fun _ _ _ => hQ _ _ _ _ _) (Or.inl ⟨by kernel_rfl, fun _ _ => by kernel_rfl⟩) hS' ?_
    refine wpAnyH_take (i := 6) (oi := me2Op6) (v := .bool (decide (xm f (byt (xm g nineB)) ≠ 0))) rfl (by kernel_rfl) (by kernel_rfl) (by kernel_rfl) (fun _ _ _ => hQ _ _ _ _ _) (Or.inl ⟨by kernel_rfl, fun _ _ => by kernel_rfl⟩) hS' ?_
    exact wpAnyH_at (by kernel_rfl) (by kernel_rfl) (me2_2 C w' hS' )
  refine AllReadyH.cons (o := me2Op7) rfl (fun K hK => ?_) AllReadyH.nil
  rw [if_pos (by rfl)]
  refine wp_new _ 22 (alloc_by _ _ _ rfl) ?_
  intro n6 w' eb Bn6 hbw
  have hS' := hS.call hbw
  refine hK.out _ _ hS' (fun _ => ?_)
  exact wpAnyH_at (by kernel_rfl) (by kernel_rfl) (me2_3 C w' hS' (by rw [eb]; exact hS.size) Bn6)
set_option maxRecDepth 100000 in
set_option maxHeartbeats 2000000 in
theorem me2_6 (C : me2C Q u z0 z1 z4 z5 z6 z7 z8 z9 z10 z11 z12 z13 z14 z15 z16 z17 zz b2 b3 f g) (w : World) (hS : Kp [] u w) :
    wpAnyH Try.prog .any me2Ops Q (Kp [] u) 8 (List.toArray (true :: true :: false :: false :: false :: false :: false :: false :: false :: false :: [])) { tmps := List.toArray (z0 :: z1 :: (.pointer (some ⟨b2, 0, none⟩)) :: (.pointer (some ⟨b3, 0, none⟩)) :: z4 :: z5 :: z6 :: z7 :: z8 :: z9 :: z10 :: z11 :: (.agg (vals .u8 32 f)) :: (.agg (vals .u8 32 g)) :: z14 :: z15 :: z16 :: z17 :: zz), defers := [] } w := by
  obtain ⟨hQ, hf, hg, hb2, nb2, hb3, nb3, _⟩ := id C
  refine wpAnyH_ready (rs := [2, 7]) (by kernel_rfl) (by simp) ?_
  refine AllReadyH.cons (o := me2Op2) rfl (fun K hK => ?_) ?_
  · skip
    rw [if_pos (by rfl)]
    refine wp_call_val 12 #[.agg (vals .u8 32 g)] (by kernel_rfl) (.agg (vals .u8 32 (byt (xm g nineB)))) (public_c g _ hg) ?_
    intro w' hbw
    have hS' := hS.call hbw
    refine hK.out _ _ hS' (fun _ => ?_)
    exact wpAnyH_at (by kernel_rfl) (by kernel_rfl) (me2_5 C w' hS' )
  refine AllReadyH.cons (o := me2Op7) rfl (fun K hK => ?_) AllReadyH.nil
  rw [if_pos (by rfl)]
  refine wp_new _ 22 (alloc_by _ _ _ rfl) ?_
  intro n6 w' eb Bn6 hbw
  have hS' := hS.call hbw
  refine hK.out _ _ hS' (fun _ => ?_)
  exact wpAnyH_at (by kernel_rfl) (by kernel_rfl) (me2_4 C w' hS' (by rw [eb]; exact hS.size) Bn6)
end
set_option maxRecDepth 100000 in
set_option maxHeartbeats 2000000 in
theorem me2_region (Q : Exit → Act → World → Prop) (hQ : ∀ c a w n v, Q (.panic c) (a.put (some n) v) w → Q (.panic c) a w) (u : World) (z0 z1 z4 z5 z6 z7 z8 z9 z10 z11 z12 z13 z14 z15 z16 z17 : Value) (zz : List Value) (b2 b3 : Nat) (f g : Nat → Nat) (hf : ∀ i, f i < 256) (hg : ∀ i, g i < 256) (hb2 : Blk u b2 (vals .u8 32 f) 22) (nb2 : b2 ∉ ([] : List Nat)) (hb3 : Blk u b3 (vals .u8 32 g) 22) (nb3 : b3 ∉ ([] : List Nat)) (H : ∀ (n6 : Nat) (w : World), Kp [] u w → u.heap.size ≤ n6 → Blk w n6 (vals .u8 32 (byt (xm f (byt (xm g nineB))))) 22 → Q .normal { tmps := List.toArray (z0 :: z1 :: (.pointer (some ⟨b2, 0, none⟩)) :: (.pointer (some ⟨b3, 0, none⟩)) :: z4 :: z5 :: (.pointer (some ⟨n6, 0, none⟩)) :: (.bool (decide (xm f (byt (xm g nineB)) ≠ 0))) :: z8 :: z9 :: z10 :: (.tuple #[.agg (vals .u8 32 (byt (xm f (byt (xm g nineB))))), .bool (decide (xm f (byt (xm g nineB)) ≠ 0))]) :: (.agg (vals .u8 32 f)) :: (.agg (vals .u8 32 g)) :: (.agg (vals .u8 32 (byt (xm g nineB)))) :: (.tuple #[.agg (vals .u8 32 (byt (xm f (byt (xm g nineB))))), .bool (decide (xm f (byt (xm g nineB)) ≠ 0))]) :: (.agg (vals .u8 32 (byt (xm f (byt (xm g nineB)))))) :: (.bool (decide (xm f (byt (xm g nineB)) ≠ 0))) :: zz), defers := [] } w) :
    (Code.region 2 me2Ops true).wp Try.prog Q { tmps := List.toArray (z0 :: z1 :: (.pointer (some ⟨b2, 0, none⟩)) :: (.pointer (some ⟨b3, 0, none⟩)) :: z4 :: z5 :: z6 :: z7 :: z8 :: z9 :: z10 :: z11 :: z12 :: z13 :: z14 :: z15 :: z16 :: z17 :: zz), defers := [] } u := by
  have C : me2C Q u z0 z1 z4 z5 z6 z7 z8 z9 z10 z11 z12 z13 z14 z15 z16 z17 zz b2 b3 f g := ⟨hQ, hf, hg, hb2, nb2, hb3, nb3, H⟩
  refine wp_region_held_drew (S := (Kp [] u)) (by kernel_rfl) (Kp.drew _ u) (fun hS' => ?_)
  refine wpAnyH_take (i := 0) (oi := me2Op0) (v := .agg (vals .u8 32 f)) rfl (by kernel_rfl) (by kernel_rfl) (by kernel_rfl) (fun _ _ _ => hQ _ _ _ _ _) (yields_S (fun _ h => h.keep _ _ _ nb2 hb2) (by kernel_rfl) 22 _ rfl (by kernel_rfl) _ Try.underlying22 rfl (size_by _)) hS' ?_
  refine wpAnyH_take (i := 1) (oi := me2Op1) (v := .agg (vals .u8 32 g)) rfl (by kernel_rfl) (by kernel_rfl) (by kernel_rfl) (fun _ _ _ => hQ _ _ _ _ _) (yields_S (fun _ h => h.keep _ _ _ nb3 hb3) (by kernel_rfl) 22 _ rfl (by kernel_rfl) _ Try.underlying22 rfl (size_by _)) hS' ?_
  exact wpAnyH_at (by kernel_rfl) (by kernel_rfl) (me2_6 C u.drew hS' )
def me3Op0 : Oper := { dst := some 19, op := Op.load 22 (Operand.tmp 3), type := 22, pos := "law.go:33", after := #[], guard := none }
def me3Op1 : Oper := { dst := some 20, op := Op.load 22 (Operand.tmp 2), type := 22, pos := "law.go:33", after := #[], guard := none }
def me3Op2 : Oper := { dst := some 21, op := Op.call { callee := Callee.value (Operand.func 12), args := #[Operand.tmp 20], argTypes := #[22] }, type := 22, pos := "law.go:33", after := #[{ on := 1, ground := Ground.data }], guard := none }
def me3Op3 : Oper := { dst := some 22, op := Op.call { callee := Callee.value (Operand.func 11), args := #[Operand.tmp 19, Operand.tmp 21], argTypes := #[22, 22] }, type := 25, pos := "law.go:33", after := #[{ on := 0, ground := Ground.data }, { on := 2, ground := Ground.data }, { on := 2, ground := Ground.chain }], guard := none }
def me3Op4 : Oper := { dst := some 18, op := Op.move (Operand.tmp 22), type := 25, pos := "law.go:33", after := #[{ on := 3, ground := Ground.data }], guard := none }
def me3Op5 : Oper := { dst := some 23, op := Op.extract (Operand.tmp 18) 0, type := 22, pos := "law.go:33", after := #[{ on := 4, ground := Ground.data }], guard := none }
def me3Op6 : Oper := { dst := some 24, op := Op.extract (Operand.tmp 18) 1, type := 4, pos := "law.go:33", after := #[{ on := 4, ground := Ground.data }, { on := 8, ground := Ground.gcOnly Departure.lateStores }], guard := none }
def me3Op7 : Oper := { dst := some 8, op := Op.alloc 22, type := 0, pos := "law.go:33", after := #[], guard := none }
def me3Op8 : Oper := { dst := none, op := Op.store 22 (Operand.tmp 8) (Operand.tmp 23), type := 0, pos := "law.go:33", after := #[{ on := 7, ground := Ground.data }, { on := 5, ground := Ground.data }, { on := 3, ground := Ground.chain }, { on := 0, ground := Ground.phase }, { on := 1, ground := Ground.phase }, { on := 2, ground := Ground.phase }, { on := 3, ground := Ground.phase }, { on := 4, ground := Ground.phase }, { on := 5, ground := Ground.phase }, { on := 6, ground := Ground.textOnly Departure.lateStores }, { on := 7, ground := Ground.phase }], guard := none }
def me3Op9 : Oper := { dst := some 9, op := Op.assign (Operand.tmp 24), type := 4, pos := "law.go:33", after := #[{ on := 6, ground := Ground.data }, { on := 8, ground := Ground.chain }, { on := 0, ground := Ground.phase }, { on := 1, ground := Ground.phase }, { on := 2, ground := Ground.phase }, { on := 3, ground := Ground.phase }, { on := 4, ground := Ground.phase }, { on := 5, ground := Ground.phase }, { on := 6, ground := Ground.phase }, { on := 7, ground := Ground.phase }, { on := 8, ground := Ground.phase }], guard := none }
def me3Ops : Array Oper := #[me3Op0, me3Op1, me3Op2, me3Op3, me3Op4, me3Op5, me3Op6, me3Op7, me3Op8, me3Op9]
structure me3C (Q : Exit → Act → World → Prop) (u : World) (z0 z1 z4 z5 z6 z7 z8 z9 z10 z11 z12 z13 z14 z15 z16 z17 z18 z19 z20 z21 z22 z23 z24 : Value) (zz : List Value) (b2 b3 : Nat) (f g : Nat → Nat) : Prop where
  hQ : ∀ c a w n v, Q (.panic c) (a.put (some n) v) w → Q (.panic c) a w
  hf : ∀ i, f i < 256
  hg : ∀ i, g i < 256
  hb2 : Blk u b2 (vals .u8 32 f) 22
  nb2 : b2 ∉ ([] : List Nat)
  hb3 : Blk u b3 (vals .u8 32 g) 22
  nb3 : b3 ∉ ([] : List Nat)
  H : ∀ (n8 : Nat) (w : World), Kp [] u w → u.heap.size ≤ n8 → Blk w n8 (vals .u8 32 (byt (xm g (byt (xm f nineB))))) 22 → Q .normal { tmps := List.toArray (z0 :: z1 :: (.pointer (some ⟨b2, 0, none⟩)) :: (.pointer (some ⟨b3, 0, none⟩)) :: z4 :: z5 :: z6 :: z7 :: (.pointer (some ⟨n8, 0, none⟩)) :: (.bool (decide (xm g (byt (xm f nineB)) ≠ 0))) :: z10 :: z11 :: z12 :: z13 :: z14 :: z15 :: z16 :: z17 :: (.tuple #[.agg (vals .u8 32 (byt (xm g (byt (xm f nineB))))), .bool (decide (xm g (byt (xm f nineB)) ≠ 0))]) :: (.agg (vals .u8 32 g)) :: (.agg (vals .u8 32 f)) :: (.agg (vals .u8 32 (byt (xm f nineB)))) :: (.tuple #[.agg (vals .u8 32 (byt (xm g (byt (xm f nineB))))), .bool (decide (xm g (byt (xm f nineB)) ≠ 0))]) :: (.agg (vals .u8 32 (byt (xm g (byt (xm f nineB)))))) :: (.bool (decide (xm g (byt (xm f nineB)) ≠ 0))) :: zz), defers := [] } w
section
variable {Q : Exit → Act → World → Prop} {u : World} {z0 z1 z4 z5 z6 z7 z8 z9 z10 z11 z12 z13 z14 z15 z16 z17 z18 z19 z20 z21 z22 z23 z24 : Value} {zz : List Value} {b2 b3 : Nat} {f g : Nat → Nat}
set_option maxRecDepth 100000 in
set_option maxHeartbeats 2000000 in
theorem me3_0 (C : me3C Q u z0 z1 z4 z5 z6 z7 z8 z9 z10 z11 z12 z13 z14 z15 z16 z17 z18 z19 z20 z21 z22 z23 z24 zz b2 b3 f g) {n8 : Nat} (w : World) (hS : Kp [] u w) (gn8 : u.heap.size ≤ n8) (Bn8 : Blk w n8 (vals .u8 32 (byt (xm g (byt (xm f nineB))))) 22) :
    wpAnyH Try.prog .any me3Ops Q (Kp [] u) 0 (List.toArray (true :: true :: true :: true :: true :: true :: true :: true :: true :: true :: [])) { tmps := List.toArray (z0 :: z1 :: (.pointer (some ⟨b2, 0, none⟩)) :: (.pointer (some ⟨b3, 0, none⟩)) :: z4 :: z5 :: z6 :: z7 :: (.pointer (some ⟨n8, 0, none⟩)) :: (.bool (decide (xm g (byt (xm f nineB)) ≠ 0))) :: z10 :: z11 :: z12 :: z13 :: z14 :: z15 :: z16 :: z17 :: (.tuple #[.agg (vals .u8 32 (byt (xm g (byt (xm f nineB))))), .bool (decide (xm g (byt (xm f nineB)) ≠ 0))]) :: (.agg (vals .u8 32 g)) :: (.agg (vals .u8 32 f)) :: (.agg (vals .u8 32 (byt (xm f nineB)))) :: (.tuple #[.agg (vals .u8 32 (byt (xm g (byt (xm f nineB))))), .bool (decide (xm g (byt (xm f nineB)) ≠ 0))]) :: (.agg (vals .u8 32 (byt (xm g (byt (xm f nineB)))))) :: (.bool (decide (xm g (byt (xm f nineB)) ≠ 0))) :: zz), defers := [] } w := by
  exact wpAnyH_done (by kernel_rfl) (C.H n8 w hS gn8 Bn8) _
set_option maxRecDepth 100000 in
set_option maxHeartbeats 2000000 in
theorem me3_1 (C : me3C Q u z0 z1 z4 z5 z6 z7 z8 z9 z10 z11 z12 z13 z14 z15 z16 z17 z18 z19 z20 z21 z22 z23 z24 zz b2 b3 f g) {n8 : Nat} (w : World) (hS : Kp [] u w) (gn8 : u.heap.size ≤ n8) (Bn8 : Blk w n8 (vals .u8 32 (fun _ => 0)) 22) :
    wpAnyH Try.prog .any me3Ops Q (Kp [] u) 2 (List.toArray (true :: true :: true :: true :: true :: true :: true :: true :: false :: false :: [])) { tmps := List.toArray (z0 :: z1 :: (.pointer (some ⟨b2, 0, none⟩)) :: (.pointer (some ⟨b3, 0, none⟩)) :: z4 :: z5 :: z6 :: z7 :: (.pointer (some ⟨n8, 0, none⟩)) :: z9 :: z10 :: z11 :: z12 :: z13 :: z14 :: z15 :: z16 :: z17 :: (.tuple #[.agg (vals .u8 32 (byt (xm g (byt (xm f nineB))))), .bool (decide (xm g (byt (xm f nineB)) ≠ 0))]) :: (.agg (vals .u8 32 g)) :: (.agg (vals .u8 32 f)) :: (.agg (vals .u8 32 (byt (xm f nineB)))) :: (.tuple #[.agg (vals .u8 32 (byt (xm g (byt (xm f nineB))))), .bool (decide (xm g (byt (xm f nineB)) ≠ 0))]) :: (.agg (vals .u8 32 (byt (xm g (byt (xm f nineB)))))) :: (.bool (decide (xm g (byt (xm f nineB)) ≠ 0))) :: zz), defers := [] } w := by
  obtain ⟨hQ, hf, hg, hb2, nb2, hb3, nb3, _⟩ := id C
  refine wpAnyH_ready (rs := [8]) (by kernel_rfl) (by simp) ?_
  refine AllReadyH.cons (o := me3Op8) rfl (fun K hK => ?_) AllReadyH.nil
  rw [if_pos (by rfl)]
  refine wp_store_row 22 _ _ rfl n8 (vals .u8 32 (byt (xm g (byt (xm f nineB))))) (by kernel_rfl) (by kernel_rfl) 22 _ Bn8 (size_by _) (by rw [vals_size, vals_size]) (vals_one _ _ _) ?_
  have hS' := hS.new gn8 (vals .u8 32 (byt (xm g (byt (xm f nineB)))))
  refine hK.out _ _ hS' (fun _ => ?_)
  refine wpAnyH_take (i := 9) (oi := me3Op9) (v := .bool (decide (xm g (byt (xm f nineB)) ≠ 0))) rfl (by kernel_rfl) (by kernel_rfl) (by kernel_rfl) (fun _ _ _ => hQ _ _ _ _ _) (Or.inl ⟨by kernel_rfl, fun _ _ => by kernel_rfl⟩) hS' ?_
  exact wpAnyH_at (by kernel_rfl) (by kernel_rfl) (me3_0 C (w.setRow n8 (vals .u8 32 (byt (xm g (byt (xm f nineB)))))) hS' gn8 (Bn8.row (vals .u8 32 (byt (xm g (byt (xm f nineB)))))))
set_option maxRecDepth 100000 in
set_option maxHeartbeats 2000000 in
theorem me3_2 (C : me3C Q u z0 z1 z4 z5 z6 z7 z8 z9 z10 z11 z12 z13 z14 z15 z16 z17 z18 z19 z20 z21 z22 z23 z24 zz b2 b3 f g) (w : World) (hS : Kp [] u w) :
    wpAnyH Try.prog .any me3Ops Q (Kp [] u) 3 (List.toArray (true :: true :: true :: true :: true :: true :: true :: false :: false :: false :: [])) { tmps := List.toArray (z0 :: z1 :: (.pointer (some ⟨b2, 0, none⟩)) :: (.pointer (some ⟨b3, 0, none⟩)) :: z4 :: z5 :: z6 :: z7 :: z8 :: z9 :: z10 :: z11 :: z12 :: z13 :: z14 :: z15 :: z16 :: z17 :: (.tuple #[.agg (vals .u8 32 (byt (xm g (byt (xm f nineB))))), .bool (decide (xm g (byt (xm f nineB)) ≠ 0))]) :: (.agg (vals .u8 32 g)) :: (.agg (vals .u8 32 f)) :: (.agg (vals .u8 32 (byt (xm f nineB)))) :: (.tuple #[.agg (vals .u8 32 (byt (xm g (byt (xm f nineB))))), .bool (decide (xm g (byt (xm f nineB)) ≠ 0))]) :: (.agg (vals .u8 32 (byt (xm g (byt (xm f nineB)))))) :: (.bool (decide (xm g (byt (xm f nineB)) ≠ 0))) :: zz), defers := [] } w := by
  obtain ⟨hQ, hf, hg, hb2, nb2, hb3, nb3, _⟩ := id C
  refine wpAnyH_ready (rs := [7]) (by kernel_rfl) (by simp) ?_
  refine AllReadyH.cons (o := me3Op7) rfl (fun K hK => ?_) AllReadyH.nil
  rw [if_pos (by rfl)]
  refine wp_new _ 22 (alloc_by _ _ _ rfl) ?_
  intro n8 w' eb Bn8 hbw
  have hS' := hS.call hbw
  refine hK.out _ _ hS' (fun _ => ?_)
  exact wpAnyH_at (by kernel_rfl) (by kernel_rfl) (me3_1 C w' hS' (by rw [eb]; exact hS.size) Bn8)
set_option maxRecDepth 100000 in
set_option maxHeartbeats 2000000 in
theorem me3_3 (C : me3C Q u z0 z1 z4 z5 z6 z7 z8 z9 z10 z11 z12 z13 z14 z15 z16 z17 z18 z19 z20 z21 z22 z23 z24 zz b2 b3 f g) {n8 : Nat} (w : World) (hS : Kp [] u w) (gn8 : u.heap.size ≤ n8) (Bn8 : Blk w n8 (vals .u8 32 (fun _ => 0)) 22) :
    wpAnyH Try.prog .any me3Ops Q (Kp [] u) 6 (List.toArray (true :: true :: true :: false :: false :: false :: false :: true :: false :: false :: [])) { tmps := List.toArray (z0 :: z1 :: (.pointer (some ⟨b2, 0, none⟩)) :: (.pointer (some ⟨b3, 0, none⟩)) :: z4 :: z5 :: z6 :: z7 :: (.pointer (some ⟨n8, 0, none⟩)) :: z9 :: z10 :: z11 :: z12 :: z13 :: z14 :: z15 :: z16 :: z17 :: z18 :: (.agg (vals .u8 32 g)) :: (.agg (vals .u8 32 f)) :: (.agg (vals .u8 32 (byt (xm f nineB)))) :: z22 :: z23 :: z24 :: zz), defers := [] } w := by
  obtain ⟨hQ, hf, hg, hb2, nb2, hb3, nb3, _⟩ := id C
  refine wpAnyH_ready (rs := [3]) (by kernel_rfl) (by simp) ?_
  refine AllReadyH.cons (o := me3Op3) rfl (fun K hK => ?_) AllReadyH.nil
  rw [if_pos (by rfl)]
  refine wp_call_val 11 #[.agg (vals .u8 32 g), .agg (vals .u8 32 (byt (xm f nineB)))] (by kernel_rfl) (.tuple #[.agg (vals .u8 32 (byt (xm g (byt (xm f nineB))))), .bool (decide (xm g (byt (xm f nineB)) ≠ 0))]) (shared_c g (byt (xm f nineB)) _ hg (byt_lt _)) ?_
  intro w' hbw
  have hS' := hS.call hbw
  refine hK.out _ _ hS' (fun _ => ?_)
  refine wpAnyH_take (i := 4) (oi := me3Op4) (v := .tuple #[.agg (vals .u8 32 (byt (xm g (byt (xm f nineB))))), .bool (decide (xm g (byt (xm f nineB)) ≠ 0))]) rfl (by kernel_rfl) (by kernel_rfl) (by kernel_rfl) (fun _ _ _ => hQ _ _ _ _ _) (Or.inl ⟨by kernel_rfl, fun _ _ => by kernel_rfl⟩) hS' ?_
  refine wpAnyH_take (i := 5) (oi := me3Op5) (v := .agg (vals .u8 32 (byt (xm g (byt (xm f nineB)))))) rfl (by kernel_rfl) (by kernel_rfl) (by kernel_rfl) (fun _ _ _ => hQ _ _ _ _ _) (Or.inl ⟨by kernel_rfl, fun _ _ => by kernel_rfl⟩) hS' ?_
  refine wpAnyH_take (i := 6) (oi := me3Op6) (v := .bool (decide (xm g (byt (xm f nineB)) ≠ 0))) rfl (by kernel_rfl) (by kernel_rfl) (by kernel_rfl) (fun _ _ _ => hQ _ _ _ _ _) (Or.inl ⟨by kernel_rfl, fun _ _ => by kernel_rfl⟩) hS' ?_
  exact wpAnyH_at (by kernel_rfl) (by kernel_rfl) (me3_1 C w' hS' gn8 (Bn8.call hbw))
set_option maxRecDepth 100000 in
set_option maxHeartbeats 2000000 in
theorem me3_4 (C : me3C Q u z0 z1 z4 z5 z6 z7 z8 z9 z10 z11 z12 z13 z14 z15 z16 z17 z18 z19 z20 z21 z22 z23 z24 zz b2 b3 f g) {n8 : Nat} (w : World) (hS : Kp [] u w) (gn8 : u.heap.size ≤ n8) (Bn8 : Blk w n8 (vals .u8 32 (fun _ => 0)) 22) :
    wpAnyH Try.prog .any me3Ops Q (Kp [] u) 7 (List.toArray (true :: true :: false :: false :: false :: false :: false :: true :: false :: false :: [])) { tmps := List.toArray (z0 :: z1 :: (.pointer (some ⟨b2, 0, none⟩)) :: (.pointer (some ⟨b3, 0, none⟩)) :: z4 :: z5 :: z6 :: z7 :: (.pointer (some ⟨n8, 0, none⟩)) :: z9 :: z10 :: z11 :: z12 :: z13 :: z14 :: z15 :: z16 :: z17 :: z18 :: (.agg (vals .u8 32 g)) :: (.agg (vals .u8 32 f)) :: z21 :: z22 :: z23 :: z24 :: zz), defers := [] } w := by
  obtain ⟨hQ, hf, hg, hb2, nb2, hb3, nb3, _⟩ := id C
  refine wpAnyH_ready (rs := [2]) (by kernel_rfl) (by simp) ?_
  refine AllReadyH.cons (o := me3Op2) rfl (fun K hK => ?_) AllReadyH.nil
  rw [if_pos (by rfl)]
  refine wp_call_val 12 #[.agg (vals .u8 32 f)] (by kernel_rfl) (.agg (vals .u8 32 (byt (xm f nineB)))) (public_c f _ hf) ?_
  intro w' hbw
  have hS' := hS.call hbw
  refine hK.out _ _ hS' (fun _ => ?_)
  exact wpAnyH_at (by kernel_rfl) (by kernel_rfl) (me3_3 C w' hS' gn8 (Bn8.call hbw))
set_option maxRecDepth 100000 in
set_option maxHeartbeats 2000000 in
theorem me3_5 (C : me3C Q u z0 z1 z4 z5 z6 z7 z8 z9 z10 z11 z12 z13 z14 z15 z16 z17 z18 z19 z20 z21 z22 z23 z24 zz b2 b3 f g) (w : World) (hS : Kp [] u w) :
    wpAnyH Try.prog .any me3Ops Q (Kp [] u) 7 (List.toArray (true :: true :: true :: false :: false :: false :: false :: false :: false :: false :: [])) { tmps := List.toArray (z0 :: z1 :: (.pointer (some ⟨b2, 0, none⟩)) :: (.pointer (some ⟨b3, 0, none⟩)) :: z4 :: z5 :: z6 :: z7 :: z8 :: z9 :: z10 :: z11 :: z12 :: z13 :: z14 :: z15 :: z16 :: z17 :: z18 :: (.agg (vals .u8 32 g)) :: (.agg (vals .u8 32 f)) :: (.agg (vals .u8 32 (byt (xm f nineB)))) :: z22 :: z23 :: z24 :: zz), defers := [] } w := by
  obtain ⟨hQ, hf, hg, hb2, nb2, hb3, nb3, _⟩ := id C
  refine wpAnyH_ready (rs := [3, 7]) (by kernel_rfl) (by simp) ?_
  refine AllReadyH.cons (o := me3Op3) rfl (fun K hK => ?_) ?_
  · skip
    rw [if_pos (by rfl)]
    refine wp_call_val 11 #[.agg (vals .u8 32 g), .agg (vals .u8 32 (byt (xm f nineB)))] (by kernel_rfl) (.tuple #[.agg (vals .u8 32 (byt (xm g (byt (xm f nineB))))), .bool (decide (xm g (byt (xm f nineB)) ≠ 0))]) (shared_c g (byt (xm f nineB)) _ hg (byt_lt _)) ?_
    intro w' hbw
    have hS' := hS.call hbw
    refine hK.out _ _ hS' (fun _ => ?_)
    refine wpAnyH_take (i := 4) (oi := me3Op4) (v := .tuple #[.agg (vals .u8 32 (byt (xm g (byt (xm f nineB))))), .bool (decide (xm g (byt (xm f nineB)) ≠ 0))]) rfl (by kernel_rfl) (by kernel_rfl) (by kernel_rfl) (fun _ _ _ => hQ _ _ _ _ _) (Or.inl ⟨by kernel_rfl, fun _ _ => by kernel_rfl⟩) hS' ?_
    refine wpAnyH_take (i := 5) (oi := me3Op5) (v := .agg (vals .u8 32 (byt (xm g (byt (xm f nineB)))))) rfl (by kernel_rfl) (by kernel_rfl) (by kernel_rfl) (fun _ _ _ => hQ _ _ _ _ _) (Or.inl ⟨by kernel_rfl, fun _ _ => by kernel_rfl⟩) hS' ?_
    refine wpAnyH_take (i := 6) (oi := me3Op6) (v := .bool (decide (xm g (byt (xm f nineB)) ≠ 0))) rfl (by kernel_rfl) (by kernel_rfl) (by kernel_rfl) (fun _ _ _ => hQ _ _ _ _ _) (Or.inl ⟨by kernel_rfl, fun _ _ => by kernel_rfl⟩) hS' ?_
    exact wpAnyH_at (by kernel_rfl) (by kernel_rfl) (me3_2 C w' hS' )
  refine AllReadyH.cons (o := me3Op7) rfl (fun K hK => ?_) AllReadyH.nil
  rw [if_pos (by rfl)]
  refine wp_new _ 22 (alloc_by _ _ _ rfl) ?_
  intro n8 w' eb Bn8 hbw
  have hS' := hS.call hbw
  refine hK.out _ _ hS' (fun _ => ?_)
  exact wpAnyH_at (by kernel_rfl) (by kernel_rfl) (me3_3 C w' hS' (by rw [eb]; exact hS.size) Bn8)
set_option maxRecDepth 100000 in
set_option maxHeartbeats 2000000 in
theorem me3_6 (C : me3C Q u z0 z1 z4 z5 z6 z7 z8 z9 z10 z11 z12 z13 z14 z15 z16 z17 z18 z19 z20 z21 z22 z23 z24 zz b2 b3 f g) (w : World) (hS : Kp [] u w) :
    wpAnyH Try.prog .any me3Ops Q (Kp [] u) 8 (List.toArray (true :: true :: false :: false :: false :: false :: false :: false :: false :: false :: [])) { tmps := List.toArray (z0 :: z1 :: (.pointer (some ⟨b2, 0, none⟩)) :: (.pointer (some ⟨b3, 0, none⟩)) :: z4 :: z5 :: z6 :: z7 :: z8 :: z9 :: z10 :: z11 :: z12 :: z13 :: z14 :: z15 :: z16 :: z17 :: z18 :: (.agg (vals .u8 32 g)) :: (.agg (vals .u8 32 f)) :: z21 :: z22 :: z23 :: z24 :: zz), defers := [] } w := by
  obtain ⟨hQ, hf, hg, hb2, nb2, hb3, nb3, _⟩ := id C
  refine wpAnyH_ready (rs := [2, 7]) (by kernel_rfl) (by simp) ?_
  refine AllReadyH.cons (o := me3Op2) rfl (fun K hK => ?_) ?_
  · skip
    rw [if_pos (by rfl)]
    refine wp_call_val 12 #[.agg (vals .u8 32 f)] (by kernel_rfl) (.agg (vals .u8 32 (byt (xm f nineB)))) (public_c f _ hf) ?_
    intro w' hbw
    have hS' := hS.call hbw
    refine hK.out _ _ hS' (fun _ => ?_)
    exact wpAnyH_at (by kernel_rfl) (by kernel_rfl) (me3_5 C w' hS' )
  refine AllReadyH.cons (o := me3Op7) rfl (fun K hK => ?_) AllReadyH.nil
  rw [if_pos (by rfl)]
  refine wp_new _ 22 (alloc_by _ _ _ rfl) ?_
  intro n8 w' eb Bn8 hbw
  have hS' := hS.call hbw
  refine hK.out _ _ hS' (fun _ => ?_)
  exact wpAnyH_at (by kernel_rfl) (by kernel_rfl) (me3_4 C w' hS' (by rw [eb]; exact hS.size) Bn8)
end
set_option maxRecDepth 100000 in
set_option maxHeartbeats 2000000 in
theorem me3_region (Q : Exit → Act → World → Prop) (hQ : ∀ c a w n v, Q (.panic c) (a.put (some n) v) w → Q (.panic c) a w) (u : World) (z0 z1 z4 z5 z6 z7 z8 z9 z10 z11 z12 z13 z14 z15 z16 z17 z18 z19 z20 z21 z22 z23 z24 : Value) (zz : List Value) (b2 b3 : Nat) (f g : Nat → Nat) (hf : ∀ i, f i < 256) (hg : ∀ i, g i < 256) (hb2 : Blk u b2 (vals .u8 32 f) 22) (nb2 : b2 ∉ ([] : List Nat)) (hb3 : Blk u b3 (vals .u8 32 g) 22) (nb3 : b3 ∉ ([] : List Nat)) (H : ∀ (n8 : Nat) (w : World), Kp [] u w → u.heap.size ≤ n8 → Blk w n8 (vals .u8 32 (byt (xm g (byt (xm f nineB))))) 22 → Q .normal { tmps := List.toArray (z0 :: z1 :: (.pointer (some ⟨b2, 0, none⟩)) :: (.pointer (some ⟨b3, 0, none⟩)) :: z4 :: z5 :: z6 :: z7 :: (.pointer (some ⟨n8, 0, none⟩)) :: (.bool (decide (xm g (byt (xm f nineB)) ≠ 0))) :: z10 :: z11 :: z12 :: z13 :: z14 :: z15 :: z16 :: z17 :: (.tuple #[.agg (vals .u8 32 (byt (xm g (byt (xm f nineB))))), .bool (decide (xm g (byt (xm f nineB)) ≠ 0))]) :: (.agg (vals .u8 32 g)) :: (.agg (vals .u8 32 f)) :: (.agg (vals .u8 32 (byt (xm f nineB)))) :: (.tuple #[.agg (vals .u8 32 (byt (xm g (byt (xm f nineB))))), .bool (decide (xm g (byt (xm f nineB)) ≠ 0))]) :: (.agg (vals .u8 32 (byt (xm g (byt (xm f nineB)))))) :: (.bool (decide (xm g (byt (xm f nineB)) ≠ 0))) :: zz), defers := [] } w) :
    (Code.region 3 me3Ops true).wp Try.prog Q { tmps := List.toArray (z0 :: z1 :: (.pointer (some ⟨b2, 0, none⟩)) :: (.pointer (some ⟨b3, 0, none⟩)) :: z4 :: z5 :: z6 :: z7 :: z8 :: z9 :: z10 :: z11 :: z12 :: z13 :: z14 :: z15 :: z16 :: z17 :: z18 :: z19 :: z20 :: z21 :: z22 :: z23 :: z24 :: zz), defers := [] } u := by
  have C : me3C Q u z0 z1 z4 z5 z6 z7 z8 z9 z10 z11 z12 z13 z14 z15 z16 z17 z18 z19 z20 z21 z22 z23 z24 zz b2 b3 f g := ⟨hQ, hf, hg, hb2, nb2, hb3, nb3, H⟩
  refine wp_region_held_drew (S := (Kp [] u)) (by kernel_rfl) (Kp.drew _ u) (fun hS' => ?_)
  refine wpAnyH_take (i := 0) (oi := me3Op0) (v := .agg (vals .u8 32 g)) rfl (by kernel_rfl) (by kernel_rfl) (by kernel_rfl) (fun _ _ _ => hQ _ _ _ _ _) (yields_S (fun _ h => h.keep _ _ _ nb3 hb3) (by kernel_rfl) 22 _ rfl (by kernel_rfl) _ Try.underlying22 rfl (size_by _)) hS' ?_
  refine wpAnyH_take (i := 1) (oi := me3Op1) (v := .agg (vals .u8 32 f)) rfl (by kernel_rfl) (by kernel_rfl) (by kernel_rfl) (fun _ _ _ => hQ _ _ _ _ _) (yields_S (fun _ h => h.keep _ _ _ nb2 hb2) (by kernel_rfl) 22 _ rfl (by kernel_rfl) _ Try.underlying22 rfl (size_by _)) hS' ?_
  exact wpAnyH_at (by kernel_rfl) (by kernel_rfl) (me3_6 C u.drew hS' )
def me4Op0 : Oper := { dst := some 25, op := Op.move (Operand.tmp 5), type := 4, pos := "law.go:34", after := #[], guard := none }
def me4Op1 : Oper := { dst := some 26, op := Op.move (Operand.tmp 25), type := 4, pos := "law.go:34", after := #[{ on := 0, ground := Ground.data }], guard := none }
def me4Op2 : Oper := { dst := some 27, op := Op.load 22 (Operand.tmp 6), type := 22, pos := "law.go:34", after := #[{ on := 1, ground := Ground.guard }], guard := some (1, true) }
def me4Op3 : Oper := { dst := some 28, op := Op.load 22 (Operand.tmp 8), type := 22, pos := "law.go:34", after := #[{ on := 1, ground := Ground.guard }], guard := some (1, true) }
def me4Op4 : Oper := { dst := some 29, op := Op.binOp BinOp.eql 22 (Operand.tmp 27) (Operand.tmp 28) 22, type := 4, pos := "law.go:34", after := #[{ on := 2, ground := Ground.data }, { on := 3, ground := Ground.data }, { on := 1, ground := Ground.guard }], guard := some (1, true) }
def me4Op5 : Oper := { dst := some 30, op := Op.pick (Operand.tmp 26) (Operand.tmp 29) (Operand.const (Value.bool false)), type := 4, pos := "law.go:34", after := #[{ on := 1, ground := Ground.data }, { on := 4, ground := Ground.data }], guard := none }
def me4Op6 : Oper := { dst := some 31, op := Op.move (Operand.tmp 30), type := 4, pos := "law.go:34", after := #[{ on := 5, ground := Ground.data }, { on := 1, ground := Ground.chain }], guard := none }
def me4Op7 : Oper := { dst := some 32, op := Op.move (Operand.tmp 7), type := 4, pos := "law.go:34", after := #[{ on := 6, ground := Ground.guard }], guard := some (6, true) }
def me4Op8 : Oper := { dst := some 33, op := Op.pick (Operand.tmp 31) (Operand.tmp 32) (Operand.const (Value.bool false)), type := 4, pos := "law.go:34", after := #[{ on := 6, ground := Ground.data }, { on := 7, ground := Ground.data }], guard := none }
def me4Op9 : Oper := { dst := some 34, op := Op.move (Operand.tmp 33), type := 4, pos := "law.go:34", after := #[{ on := 8, ground := Ground.data }, { on := 6, ground := Ground.chain }], guard := none }
def me4Op10 : Oper := { dst := some 35, op := Op.move (Operand.tmp 9), type := 4, pos := "law.go:34", after := #[{ on := 9, ground := Ground.guard }], guard := some (9, true) }
def me4Op11 : Oper := { dst := some 36, op := Op.pick (Operand.tmp 34) (Operand.tmp 35) (Operand.const (Value.bool false)), type := 4, pos := "law.go:34", after := #[{ on := 9, ground := Ground.data }, { on := 10, ground := Ground.data }], guard := none }
def me4Op12 : Oper := { dst := some 4, op := Op.assign (Operand.tmp 36), type := 4, pos := "law.go:34", after := #[{ on := 11, ground := Ground.data }, { on := 9, ground := Ground.chain }, { on := 0, ground := Ground.phase }, { on := 1, ground := Ground.phase }, { on := 2, ground := Ground.phase }, { on := 3, ground := Ground.phase }, { on := 4, ground := Ground.phase }, { on := 5, ground := Ground.phase }, { on := 6, ground := Ground.phase }, { on := 7, ground := Ground.phase }, { on := 8, ground := Ground.phase }, { on := 9, ground := Ground.phase }, { on := 10, ground := Ground.phase }, { on := 11, ground := Ground.phase }], guard := none }
def me4Ops : Array Oper := #[me4Op0, me4Op1, me4Op2, me4Op3, me4Op4, me4Op5, me4Op6, me4Op7, me4Op8, me4Op9, me4Op10, me4Op11, me4Op12]
set_option maxRecDepth 100000 in
set_option maxHeartbeats 2000000 in
theorem me4_region (Q : Exit → Act → World → Prop) (hQ : ∀ c a w n v, Q (.panic c) (a.put (some n) v) w → Q (.panic c) a w) (u : World) (z0 z1 z2 z3 z4 z10 z11 z12 z13 z14 z15 z16 z17 z18 z19 z20 z21 z22 z23 z24 z25 z26 z27 z28 z29 z30 z31 z32 z33 z34 z35 z36 : Value) (b6 b8 : Nat) (x y : Nat → Nat) (hxy : sameB x y = true) (hb6 : Blk u b6 (vals .u8 32 x) 22) (nb6 : b6 ∉ ([] : List Nat)) (hb8 : Blk u b8 (vals .u8 32 y) 22) (nb8 : b8 ∉ ([] : List Nat)) (H : ∀ (w : World), Kp [] u w → Q .normal { tmps := List.toArray (z0 :: z1 :: z2 :: z3 :: (.bool true) :: (.bool true) :: (.pointer (some ⟨b6, 0, none⟩)) :: (.bool true) :: (.pointer (some ⟨b8, 0, none⟩)) :: (.bool true) :: z10 :: z11 :: z12 :: z13 :: z14 :: z15 :: z16 :: z17 :: z18 :: z19 :: z20 :: z21 :: z22 :: z23 :: z24 :: (.bool true) :: (.bool true) :: (.agg (vals .u8 32 x)) :: (.agg (vals .u8 32 y)) :: (.bool true) :: (.bool true) :: (.bool true) :: (.bool true) :: (.bool true) :: (.bool true) :: (.bool true) :: (.bool true) :: []), defers := [] } w) :
    (Code.region 4 me4Ops false).wp Try.prog Q { tmps := List.toArray (z0 :: z1 :: z2 :: z3 :: z4 :: (.bool true) :: (.pointer (some ⟨b6, 0, none⟩)) :: (.bool true) :: (.pointer (some ⟨b8, 0, none⟩)) :: (.bool true) :: z10 :: z11 :: z12 :: z13 :: z14 :: z15 :: z16 :: z17 :: z18 :: z19 :: z20 :: z21 :: z22 :: z23 :: z24 :: z25 :: z26 :: z27 :: z28 :: z29 :: z30 :: z31 :: z32 :: z33 :: z34 :: z35 :: z36 :: []), defers := [] } u := by
  have _ := hQ
  have _ := u
  have _ := z0
  have _ := z1
  have _ := z2
  have _ := z3
  have _ := z4
  have _ := z10
  have _ := z11
  have _ := z12
  have _ := z13
  have _ := z14
  have _ := z15
  have _ := z16
  have _ := z17
  have _ := z18
  have _ := z19
  have _ := z20
  have _ := z21
  have _ := z22
  have _ := z23
  have _ := z24
  have _ := z25
  have _ := z26
  have _ := z27
  have _ := z28
  have _ := z29
  have _ := z30
  have _ := z31
  have _ := z32
  have _ := z33
  have _ := z34
  have _ := z35
  have _ := z36
  have _ := b6
  have _ := b8
  have _ := x
  have _ := y
  have _ := hxy
  have _ := hb6
  have _ := nb6
  have _ := hb8
  have _ := nb8
  refine wp_region_list (show wpList _ me4Ops _ [me4Op0, me4Op1, me4Op2, me4Op3, me4Op4, me4Op5, me4Op6, me4Op7, me4Op8, me4Op9, me4Op10, me4Op11, me4Op12] _ _ from ?_)
  have hS : Kp [] u u := Kp.refl _ u
  refine wpList_plain rfl (fun K hK => ?_)
  refine wp_val (.bool true) (by kernel_rfl) ?_
  have hS' := hS
  refine hK _ _ ?_
  clear hK K
  clear hS
  have hS := hS'
  clear hS'
  refine wpList_fr (a' := { tmps := List.toArray (z0 :: z1 :: z2 :: z3 :: z4 :: (.bool true) :: (.pointer (some ⟨b6, 0, none⟩)) :: (.bool true) :: (.pointer (some ⟨b8, 0, none⟩)) :: (.bool true) :: z10 :: z11 :: z12 :: z13 :: z14 :: z15 :: z16 :: z17 :: z18 :: z19 :: z20 :: z21 :: z22 :: z23 :: z24 :: (.bool true) :: z26 :: z27 :: z28 :: z29 :: z30 :: z31 :: z32 :: z33 :: z34 :: z35 :: z36 :: []), defers := [] }) (by kernel_rfl) ?_
  refine wpList_plain rfl (fun K hK => ?_)
  refine wp_val (.bool true) (by kernel_rfl) ?_
  have hS' := hS
  refine hK _ _ ?_
  clear hK K
  clear hS
  have hS := hS'
  clear hS'
  refine wpList_fr (a' := { tmps := List.toArray (z0 :: z1 :: z2 :: z3 :: z4 :: (.bool true) :: (.pointer (some ⟨b6, 0, none⟩)) :: (.bool true) :: (.pointer (some ⟨b8, 0, none⟩)) :: (.bool true) :: z10 :: z11 :: z12 :: z13 :: z14 :: z15 :: z16 :: z17 :: z18 :: z19 :: z20 :: z21 :: z22 :: z23 :: z24 :: (.bool true) :: (.bool true) :: z27 :: z28 :: z29 :: z30 :: z31 :: z32 :: z33 :: z34 :: z35 :: z36 :: []), defers := [] }) (by kernel_rfl) ?_
  refine wpList_step (fun K hK => ?_)
  rw [if_pos (by kernel_rfl)]
  refine wp_load_row 22 _ rfl b6 (by kernel_rfl) 22 _ (0, 0) _ (hS.keep _ _ _ nb6 hb6) Try.underlying22 rfl (size_by _) ?_
  have hS' := hS
  refine hK _ _ ?_
  clear hK K
  clear hS
  have hS := hS'
  clear hS'
  refine wpList_fr (a' := { tmps := List.toArray (z0 :: z1 :: z2 :: z3 :: z4 :: (.bool true) :: (.pointer (some ⟨b6, 0, none⟩)) :: (.bool true) :: (.pointer (some ⟨b8, 0, none⟩)) :: (.bool true) :: z10 :: z11 :: z12 :: z13 :: z14 :: z15 :: z16 :: z17 :: z18 :: z19 :: z20 :: z21 :: z22 :: z23 :: z24 :: (.bool true) :: (.bool true) :: (.agg (vals .u8 32 x)) :: z28 :: z29 :: z30 :: z31 :: z32 :: z33 :: z34 :: z35 :: z36 :: []), defers := [] }) (by kernel_rfl) ?_
  refine wpList_step (fun K hK => ?_)
  rw [if_pos (by kernel_rfl)]
  refine wp_load_row 22 _ rfl b8 (by kernel_rfl) 22 _ (0, 0) _ (hS.keep _ _ _ nb8 hb8) Try.underlying22 rfl (size_by _) ?_
  have hS' := hS
  refine hK _ _ ?_
  clear hK K
  clear hS
  have hS := hS'
  clear hS'
  refine wpList_fr (a' := { tmps := List.toArray (z0 :: z1 :: z2 :: z3 :: z4 :: (.bool true) :: (.pointer (some ⟨b6, 0, none⟩)) :: (.bool true) :: (.pointer (some ⟨b8, 0, none⟩)) :: (.bool true) :: z10 :: z11 :: z12 :: z13 :: z14 :: z15 :: z16 :: z17 :: z18 :: z19 :: z20 :: z21 :: z22 :: z23 :: z24 :: (.bool true) :: (.bool true) :: (.agg (vals .u8 32 x)) :: (.agg (vals .u8 32 y)) :: z29 :: z30 :: z31 :: z32 :: z33 :: z34 :: z35 :: z36 :: []), defers := [] }) (by kernel_rfl) ?_
  refine wpList_step (fun K hK => ?_)
  rw [if_pos (by kernel_rfl)]
  refine wp_val (.bool true) (eql_t _ _ x y _ rfl (by kernel_rfl) (by kernel_rfl) hxy) ?_
  have hS' := hS
  refine hK _ _ ?_
  clear hK K
  clear hS
  have hS := hS'
  clear hS'
  refine wpList_fr (a' := { tmps := List.toArray (z0 :: z1 :: z2 :: z3 :: z4 :: (.bool true) :: (.pointer (some ⟨b6, 0, none⟩)) :: (.bool true) :: (.pointer (some ⟨b8, 0, none⟩)) :: (.bool true) :: z10 :: z11 :: z12 :: z13 :: z14 :: z15 :: z16 :: z17 :: z18 :: z19 :: z20 :: z21 :: z22 :: z23 :: z24 :: (.bool true) :: (.bool true) :: (.agg (vals .u8 32 x)) :: (.agg (vals .u8 32 y)) :: (.bool true) :: z30 :: z31 :: z32 :: z33 :: z34 :: z35 :: z36 :: []), defers := [] }) (by kernel_rfl) ?_
  refine wpList_plain rfl (fun K hK => ?_)
  refine wp_val (.bool true) (by kernel_rfl) ?_
  have hS' := hS
  refine hK _ _ ?_
  clear hK K
  clear hS
  have hS := hS'
  clear hS'
  refine wpList_fr (a' := { tmps := List.toArray (z0 :: z1 :: z2 :: z3 :: z4 :: (.bool true) :: (.pointer (some ⟨b6, 0, none⟩)) :: (.bool true) :: (.pointer (some ⟨b8, 0, none⟩)) :: (.bool true) :: z10 :: z11 :: z12 :: z13 :: z14 :: z15 :: z16 :: z17 :: z18 :: z19 :: z20 :: z21 :: z22 :: z23 :: z24 :: (.bool true) :: (.bool true) :: (.agg (vals .u8 32 x)) :: (.agg (vals .u8 32 y)) :: (.bool true) :: (.bool true) :: z31 :: z32 :: z33 :: z34 :: z35 :: z36 :: []), defers := [] }) (by kernel_rfl) ?_
  refine wpList_plain rfl (fun K hK => ?_)
  refine wp_val (.bool true) (by kernel_rfl) ?_
  have hS' := hS
  refine hK _ _ ?_
  clear hK K
  clear hS
  have hS := hS'
  clear hS'
  refine wpList_fr (a' := { tmps := List.toArray (z0 :: z1 :: z2 :: z3 :: z4 :: (.bool true) :: (.pointer (some ⟨b6, 0, none⟩)) :: (.bool true) :: (.pointer (some ⟨b8, 0, none⟩)) :: (.bool true) :: z10 :: z11 :: z12 :: z13 :: z14 :: z15 :: z16 :: z17 :: z18 :: z19 :: z20 :: z21 :: z22 :: z23 :: z24 :: (.bool true) :: (.bool true) :: (.agg (vals .u8 32 x)) :: (.agg (vals .u8 32 y)) :: (.bool true) :: (.bool true) :: (.bool true) :: z32 :: z33 :: z34 :: z35 :: z36 :: []), defers := [] }) (by kernel_rfl) ?_
  refine wpList_step (fun K hK => ?_)
  rw [if_pos (by kernel_rfl)]
  refine wp_val (.bool true) (by kernel_rfl) ?_
  have hS' := hS
  refine hK _ _ ?_
  clear hK K
  clear hS
  have hS := hS'
  clear hS'
  refine wpList_fr (a' := { tmps := List.toArray (z0 :: z1 :: z2 :: z3 :: z4 :: (.bool true) :: (.pointer (some ⟨b6, 0, none⟩)) :: (.bool true) :: (.pointer (some ⟨b8, 0, none⟩)) :: (.bool true) :: z10 :: z11 :: z12 :: z13 :: z14 :: z15 :: z16 :: z17 :: z18 :: z19 :: z20 :: z21 :: z22 :: z23 :: z24 :: (.bool true) :: (.bool true) :: (.agg (vals .u8 32 x)) :: (.agg (vals .u8 32 y)) :: (.bool true) :: (.bool true) :: (.bool true) :: (.bool true) :: z33 :: z34 :: z35 :: z36 :: []), defers := [] }) (by kernel_rfl) ?_
  refine wpList_plain rfl (fun K hK => ?_)
  refine wp_val (.bool true) (by kernel_rfl) ?_
  have hS' := hS
  refine hK _ _ ?_
  clear hK K
  clear hS
  have hS := hS'
  clear hS'
  refine wpList_fr (a' := { tmps := List.toArray (z0 :: z1 :: z2 :: z3 :: z4 :: (.bool true) :: (.pointer (some ⟨b6, 0, none⟩)) :: (.bool true) :: (.pointer (some ⟨b8, 0, none⟩)) :: (.bool true) :: z10 :: z11 :: z12 :: z13 :: z14 :: z15 :: z16 :: z17 :: z18 :: z19 :: z20 :: z21 :: z22 :: z23 :: z24 :: (.bool true) :: (.bool true) :: (.agg (vals .u8 32 x)) :: (.agg (vals .u8 32 y)) :: (.bool true) :: (.bool true) :: (.bool true) :: (.bool true) :: (.bool true) :: z34 :: z35 :: z36 :: []), defers := [] }) (by kernel_rfl) ?_
  refine wpList_plain rfl (fun K hK => ?_)
  refine wp_val (.bool true) (by kernel_rfl) ?_
  have hS' := hS
  refine hK _ _ ?_
  clear hK K
  clear hS
  have hS := hS'
  clear hS'
  refine wpList_fr (a' := { tmps := List.toArray (z0 :: z1 :: z2 :: z3 :: z4 :: (.bool true) :: (.pointer (some ⟨b6, 0, none⟩)) :: (.bool true) :: (.pointer (some ⟨b8, 0, none⟩)) :: (.bool true) :: z10 :: z11 :: z12 :: z13 :: z14 :: z15 :: z16 :: z17 :: z18 :: z19 :: z20 :: z21 :: z22 :: z23 :: z24 :: (.bool true) :: (.bool true) :: (.agg (vals .u8 32 x)) :: (.agg (vals .u8 32 y)) :: (.bool true) :: (.bool true) :: (.bool true) :: (.bool true) :: (.bool true) :: (.bool true) :: z35 :: z36 :: []), defers := [] }) (by kernel_rfl) ?_
  refine wpList_step (fun K hK => ?_)
  rw [if_pos (by kernel_rfl)]
  refine wp_val (.bool true) (by kernel_rfl) ?_
  have hS' := hS
  refine hK _ _ ?_
  clear hK K
  clear hS
  have hS := hS'
  clear hS'
  refine wpList_fr (a' := { tmps := List.toArray (z0 :: z1 :: z2 :: z3 :: z4 :: (.bool true) :: (.pointer (some ⟨b6, 0, none⟩)) :: (.bool true) :: (.pointer (some ⟨b8, 0, none⟩)) :: (.bool true) :: z10 :: z11 :: z12 :: z13 :: z14 :: z15 :: z16 :: z17 :: z18 :: z19 :: z20 :: z21 :: z22 :: z23 :: z24 :: (.bool true) :: (.bool true) :: (.agg (vals .u8 32 x)) :: (.agg (vals .u8 32 y)) :: (.bool true) :: (.bool true) :: (.bool true) :: (.bool true) :: (.bool true) :: (.bool true) :: (.bool true) :: z36 :: []), defers := [] }) (by kernel_rfl) ?_
  refine wpList_plain rfl (fun K hK => ?_)
  refine wp_val (.bool true) (by kernel_rfl) ?_
  have hS' := hS
  refine hK _ _ ?_
  clear hK K
  clear hS
  have hS := hS'
  clear hS'
  refine wpList_fr (a' := { tmps := List.toArray (z0 :: z1 :: z2 :: z3 :: z4 :: (.bool true) :: (.pointer (some ⟨b6, 0, none⟩)) :: (.bool true) :: (.pointer (some ⟨b8, 0, none⟩)) :: (.bool true) :: z10 :: z11 :: z12 :: z13 :: z14 :: z15 :: z16 :: z17 :: z18 :: z19 :: z20 :: z21 :: z22 :: z23 :: z24 :: (.bool true) :: (.bool true) :: (.agg (vals .u8 32 x)) :: (.agg (vals .u8 32 y)) :: (.bool true) :: (.bool true) :: (.bool true) :: (.bool true) :: (.bool true) :: (.bool true) :: (.bool true) :: (.bool true) :: []), defers := [] }) (by kernel_rfl) ?_
  refine wpList_plain rfl (fun K hK => ?_)
  refine wp_val (.bool true) (by kernel_rfl) ?_
  have hS' := hS
  refine hK _ _ ?_
  clear hK K
  clear hS
  have hS := hS'
  clear hS'
  refine wpList_fr (a' := { tmps := List.toArray (z0 :: z1 :: z2 :: z3 :: (.bool true) :: (.bool true) :: (.pointer (some ⟨b6, 0, none⟩)) :: (.bool true) :: (.pointer (some ⟨b8, 0, none⟩)) :: (.bool true) :: z10 :: z11 :: z12 :: z13 :: z14 :: z15 :: z16 :: z17 :: z18 :: z19 :: z20 :: z21 :: z22 :: z23 :: z24 :: (.bool true) :: (.bool true) :: (.agg (vals .u8 32 x)) :: (.agg (vals .u8 32 y)) :: (.bool true) :: (.bool true) :: (.bool true) :: (.bool true) :: (.bool true) :: (.bool true) :: (.bool true) :: (.bool true) :: []), defers := [] }) (by kernel_rfl) ?_
  refine wpList_nil ?_
  exact H  u hS 
set_option maxRecDepth 100000 in
set_option maxHeartbeats 2000000 in
theorem meets_walk (f g : Nat → Nat) (w : World) (hf : ∀ i, f i < 256) (hg : ∀ i, g i < 256) : Ret 4 #[.agg (vals .u8 32 f), .agg (vals .u8 32 g)] w (.bool true) := by
  obtain ⟨hm, hn⟩ := xm_meets f g hf hg
  have h1 : decide (xm f (byt (xm g nineB)) ≠ 0) = true := decide_eq_true hn
  have h2 : decide (xm g (byt (xm f nineB)) ≠ 0) = true := by rw [← hm]; exact h1
  have hs : sameB (byt (xm f (byt (xm g nineB)))) (byt (xm g (byt (xm f nineB)))) = true := by rw [hm]; exact same_self _
  clear hm hn
  go_enter Try.func4, Try.ntmps4
  go_upto_region 0 with (fail)
  refine me0_region _ (fun _ _ _ _ _ h => h) w _ _ _ _ f g ?_
  intro n2 n3 w1 hK g2 B2 g3 B3 e23
  have hL1 := hK.below w _ (Nat.le_refl _) (Below.refl _ w)
  have s1 := hK.size
  go_upto_region 1 with (fail)
  refine me1_region _ (fun _ _ _ _ _ h => h) w1 _ _ _ _ _ _ _ _ _ _ _ _ ?_
  intro w2 hK2
  have C2 := hK2.keep _ _ _ (not_nil _) B2
  have C3 := hK2.keep _ _ _ (not_nil _) B3
  have hL2 := hK2.below w _ s1 hL1
  have s2 := Nat.le_trans s1 hK2.size
  go_upto_region 2 with (fail)
  refine me2_region _ (fun _ _ _ _ _ h => h) w2 _ _ _ _ _ _ _ _ _ _ _ _ _ _ _ _ _ n2 n3 f g hf hg C2 (not_nil _) C3 (not_nil _) ?_
  rw [h1]
  intro n6 w3 hK3 g6 B6
  have D2 := hK3.keep _ _ _ (not_nil _) C2
  have D3 := hK3.keep _ _ _ (not_nil _) C3
  have hL3 := hK3.below w _ s2 hL2
  have s3 := Nat.le_trans s2 hK3.size
  go_upto_region 3 with (fail)
  refine me3_region _ (fun _ _ _ _ _ h => h) w3 _ _ _ _ _ _ _ _ _ _ _ _ _ _ _ _ _ _ _ _ _ _ _ _ n2 n3 f g hf hg D2 (not_nil _) D3 (not_nil _) ?_
  rw [h2]
  intro n8 w4 hK4 g8 B8
  have C6 := hK4.keep _ _ _ (not_nil _) B6
  have hL4 := hK4.below w _ s3 hL3
  have s4 := Nat.le_trans s3 hK4.size
  go_upto_region 4 with (fail)
  refine me4_region _ (fun _ _ _ _ _ h => h) w4 _ _ _ _ _ _ _ _ _ _ _ _ _ _ _ _ _ _ _ _ _ _ _ _ _ _ _ _ _ _ _ _ n6 n8 _ _ hs C6 (not_nil _) B8 (not_nil _) ?_
  intro w5 hK5
  have hL5 := hK5.below w _ s4 hL4
  have s5 := Nat.le_trans s4 hK5.size
  go_wp2_with fail
  go_ret
  exact ⟨rfl, hL5⟩
def ch0Op0 : Oper := { dst := some 3, op := Op.box 22 (Operand.tmp 0), type := 0, pos := "law.go:71", after := #[], guard := none }
def ch0Op1 : Oper := { dst := some 4, op := Op.box 22 (Operand.tmp 1), type := 0, pos := "law.go:71", after := #[], guard := none }
def ch0Op2 : Oper := { dst := some 5, op := Op.box 22 (Operand.tmp 2), type := 0, pos := "law.go:71", after := #[], guard := none }
def ch0Op3 : Oper := { dst := some 6, op := Op.assign (Operand.const (Value.bool false)), type := 4, pos := "law.go:71", after := #[], guard := none }
def ch0Ops : Array Oper := #[ch0Op0, ch0Op1, ch0Op2, ch0Op3]
set_option maxRecDepth 100000 in
set_option maxHeartbeats 2000000 in
theorem ch0_region (Q : Exit → Act → World → Prop) (hQ : ∀ c a w n v, Q (.panic c) (a.put (some n) v) w → Q (.panic c) a w) (u : World) (z3 z4 z5 z6 : Value) (zz : List Value) (f g h : Nat → Nat) (H : ∀ (n3 : Nat) (n4 : Nat) (n5 : Nat) (w : World), Kp [] u w → u.heap.size ≤ n3 → Blk w n3 (vals .u8 32 f) 22 → u.heap.size ≤ n4 → Blk w n4 (vals .u8 32 g) 22 → u.heap.size ≤ n5 → Blk w n5 (vals .u8 32 h) 22 → n3 ≠ n4 → n3 ≠ n5 → n4 ≠ n5 → Q .normal { tmps := List.toArray ((.agg (vals .u8 32 f)) :: (.agg (vals .u8 32 g)) :: (.agg (vals .u8 32 h)) :: (.pointer (some ⟨n3, 0, none⟩)) :: (.pointer (some ⟨n4, 0, none⟩)) :: (.pointer (some ⟨n5, 0, none⟩)) :: (.bool false) :: zz), defers := [] } w) :
    (Code.region 0 ch0Ops false).wp Try.prog Q { tmps := List.toArray ((.agg (vals .u8 32 f)) :: (.agg (vals .u8 32 g)) :: (.agg (vals .u8 32 h)) :: z3 :: z4 :: z5 :: z6 :: zz), defers := [] } u := by
  have _ := hQ
  have _ := u
  have _ := z3
  have _ := z4
  have _ := z5
  have _ := z6
  have _ := zz
  have _ := f
  have _ := g
  have _ := h
  refine wp_region_list (show wpList _ ch0Ops _ [ch0Op0, ch0Op1, ch0Op2, ch0Op3] _ _ from ?_)
  have hS : Kp [] u u := Kp.refl _ u
  refine wpList_plain rfl (fun K hK => ?_)
  refine wp_new _ 22 (box_by _ _ _ _ f rfl (by kernel_rfl)) ?_
  intro n3 w0 eb Bn3 hbw
  have hS' := hS.call hbw
  refine hK _ _ ?_
  clear hK K
  have qgn3 : u.heap.size ≤ n3 := (by rw [eb]; exact hS.size)
  have qBn3 : Blk w0 n3 (vals .u8 32 f) 22 := Bn3
  clear hS
  have gn3 := qgn3
  have Bn3 := qBn3
  have hS := hS'
  clear hS' qgn3 qBn3
  refine wpList_fr (a' := { tmps := List.toArray ((.agg (vals .u8 32 f)) :: (.agg (vals .u8 32 g)) :: (.agg (vals .u8 32 h)) :: (.pointer (some ⟨n3, 0, none⟩)) :: z4 :: z5 :: z6 :: zz), defers := [] }) (by kernel_rfl) ?_
  refine wpList_plain rfl (fun K hK => ?_)
  refine wp_new _ 22 (box_by _ _ _ _ g rfl (by kernel_rfl)) ?_
  intro n4 w1 eb Bn4 hbw
  have hS' := hS.call hbw
  refine hK _ _ ?_
  clear hK K
  have qgn3 : u.heap.size ≤ n3 := gn3
  have qBn3 : Blk w1 n3 (vals .u8 32 f) 22 := (Bn3.call hbw)
  have qgn4 : u.heap.size ≤ n4 := (by rw [eb]; exact hS.size)
  have qBn4 : Blk w1 n4 (vals .u8 32 g) 22 := Bn4
  have qen3n4 : n3 ≠ n4 := (by rw [eb]; exact Nat.ne_of_lt Bn3.lt)
  clear hS gn3 Bn3
  have gn3 := qgn3
  have Bn3 := qBn3
  have gn4 := qgn4
  have Bn4 := qBn4
  have en3n4 := qen3n4
  have hS := hS'
  clear hS' qgn3 qBn3 qgn4 qBn4 qen3n4
  refine wpList_fr (a' := { tmps := List.toArray ((.agg (vals .u8 32 f)) :: (.agg (vals .u8 32 g)) :: (.agg (vals .u8 32 h)) :: (.pointer (some ⟨n3, 0, none⟩)) :: (.pointer (some ⟨n4, 0, none⟩)) :: z5 :: z6 :: zz), defers := [] }) (by kernel_rfl) ?_
  refine wpList_plain rfl (fun K hK => ?_)
  refine wp_new _ 22 (box_by _ _ _ _ h rfl (by kernel_rfl)) ?_
  intro n5 w2 eb Bn5 hbw
  have hS' := hS.call hbw
  refine hK _ _ ?_
  clear hK K
  have qgn3 : u.heap.size ≤ n3 := gn3
  have qBn3 : Blk w2 n3 (vals .u8 32 f) 22 := (Bn3.call hbw)
  have qgn4 : u.heap.size ≤ n4 := gn4
  have qBn4 : Blk w2 n4 (vals .u8 32 g) 22 := (Bn4.call hbw)
  have qgn5 : u.heap.size ≤ n5 := (by rw [eb]; exact hS.size)
  have qBn5 : Blk w2 n5 (vals .u8 32 h) 22 := Bn5
  have qen3n4 : n3 ≠ n4 := en3n4
  have qen3n5 : n3 ≠ n5 := (by rw [eb]; exact Nat.ne_of_lt Bn3.lt)
  have qen4n5 : n4 ≠ n5 := (by rw [eb]; exact Nat.ne_of_lt Bn4.lt)
  clear hS gn3 Bn3 gn4 Bn4 en3n4
  have gn3 := qgn3
  have Bn3 := qBn3
  have gn4 := qgn4
  have Bn4 := qBn4
  have gn5 := qgn5
  have Bn5 := qBn5
  have en3n4 := qen3n4
  have en3n5 := qen3n5
  have en4n5 := qen4n5
  have hS := hS'
  clear hS' qgn3 qBn3 qgn4 qBn4 qgn5 qBn5 qen3n4 qen3n5 qen4n5
  refine wpList_fr (a' := { tmps := List.toArray ((.agg (vals .u8 32 f)) :: (.agg (vals .u8 32 g)) :: (.agg (vals .u8 32 h)) :: (.pointer (some ⟨n3, 0, none⟩)) :: (.pointer (some ⟨n4, 0, none⟩)) :: (.pointer (some ⟨n5, 0, none⟩)) :: z6 :: zz), defers := [] }) (by kernel_rfl) ?_
  refine wpList_plain rfl (fun K hK => ?_)
  refine wp_val (.bool false) (by kernel_rfl) ?_
  have hS' := hS
  refine hK _ _ ?_
  clear hK K
  have qgn3 : u.heap.size ≤ n3 := gn3
  have qBn3 : Blk w2 n3 (vals .u8 32 f) 22 := Bn3
  have qgn4 : u.heap.size ≤ n4 := gn4
  have qBn4 : Blk w2 n4 (vals .u8 32 g) 22 := Bn4
  have qgn5 : u.heap.size ≤ n5 := gn5
  have qBn5 : Blk w2 n5 (vals .u8 32 h) 22 := Bn5
  have qen3n4 : n3 ≠ n4 := en3n4
  have qen3n5 : n3 ≠ n5 := en3n5
  have qen4n5 : n4 ≠ n5 := en4n5
  clear hS gn3 Bn3 gn4 Bn4 gn5 Bn5 en3n4 en3n5 en4n5
  have gn3 := qgn3
  have Bn3 := qBn3
  have gn4 := qgn4
  have Bn4 := qBn4
  have gn5 := qgn5
  have Bn5 := qBn5
  have en3n4 := qen3n4
  have en3n5 := qen3n5
  have en4n5 := qen4n5
  have hS := hS'
  clear hS' qgn3 qBn3 qgn4 qBn4 qgn5 qBn5 qen3n4 qen3n5 qen4n5
  refine wpList_fr (a' := { tmps := List.toArray ((.agg (vals .u8 32 f)) :: (.agg (vals .u8 32 g)) :: (.agg (vals .u8 32 h)) :: (.pointer (some ⟨n3, 0, none⟩)) :: (.pointer (some ⟨n4, 0, none⟩)) :: (.pointer (some ⟨n5, 0, none⟩)) :: (.bool false) :: zz), defers := [] }) (by kernel_rfl) ?_
  refine wpList_nil ?_
  exact H n3 n4 n5 w2 hS gn3 Bn3 gn4 Bn4 gn5 Bn5 en3n4 en3n5 en4n5
def ch1Op0 : Oper := { dst := some 8, op := Op.call { callee := Callee.value (Operand.func 8), args := #[], argTypes := #[] }, type := 4, pos := "law.go:72", after := #[], guard := none }
def ch1Op1 : Oper := { dst := some 7, op := Op.assign (Operand.tmp 8), type := 4, pos := "law.go:72", after := #[{ on := 0, ground := Ground.data }, { on := 0, ground := Ground.chain }, { on := 0, ground := Ground.phase }], guard := none }
def ch1Ops : Array Oper := #[ch1Op0, ch1Op1]
set_option maxRecDepth 100000 in
set_option maxHeartbeats 2000000 in
theorem ch1_region (Q : Exit → Act → World → Prop) (hQ : ∀ c a w n v, Q (.panic c) (a.put (some n) v) w → Q (.panic c) a w) (u : World) (z0 z1 z2 z3 z4 z5 z6 z7 z8 : Value) (zz : List Value) (H : ∀ (w : World), Kp [] u w → Q .normal { tmps := List.toArray (z0 :: z1 :: z2 :: z3 :: z4 :: z5 :: z6 :: (.bool true) :: (.bool true) :: zz), defers := [] } w) :
    (Code.region 1 ch1Ops false).wp Try.prog Q { tmps := List.toArray (z0 :: z1 :: z2 :: z3 :: z4 :: z5 :: z6 :: z7 :: z8 :: zz), defers := [] } u := by
  have _ := hQ
  have _ := u
  have _ := z0
  have _ := z1
  have _ := z2
  have _ := z3
  have _ := z4
  have _ := z5
  have _ := z6
  have _ := z7
  have _ := z8
  have _ := zz
  refine wp_region_list (show wpList _ ch1Ops _ [ch1Op0, ch1Op1] _ _ from ?_)
  have hS : Kp [] u u := Kp.refl _ u
  refine wpList_plain rfl (fun K hK => ?_)
  refine wp_call_val 8 #[] (by kernel_rfl) (.bool true) (awake_c _) ?_
  intro w0 hbw
  have hS' := hS.call hbw
  refine hK _ _ ?_
  clear hK K
  clear hS
  have hS := hS'
  clear hS'
  refine wpList_fr (a' := { tmps := List.toArray (z0 :: z1 :: z2 :: z3 :: z4 :: z5 :: z6 :: z7 :: (.bool true) :: zz), defers := [] }) (by kernel_rfl) ?_
  refine wpList_plain rfl (fun K hK => ?_)
  refine wp_val (.bool true) (by kernel_rfl) ?_
  have hS' := hS
  refine hK _ _ ?_
  clear hK K
  clear hS
  have hS := hS'
  clear hS'
  refine wpList_fr (a' := { tmps := List.toArray (z0 :: z1 :: z2 :: z3 :: z4 :: z5 :: z6 :: (.bool true) :: (.bool true) :: zz), defers := [] }) (by kernel_rfl) ?_
  refine wpList_nil ?_
  exact H  w0 hS 
def ch2Op0 : Oper := { dst := some 9, op := Op.move (Operand.tmp 7), type := 4, pos := "law.go:73", after := #[], guard := none }
def ch2Op1 : Oper := { dst := some 10, op := Op.move (Operand.tmp 9), type := 4, pos := "law.go:73", after := #[{ on := 0, ground := Ground.data }], guard := none }
def ch2Op2 : Oper := { dst := some 11, op := Op.load 22 (Operand.tmp 3), type := 22, pos := "law.go:73", after := #[{ on := 1, ground := Ground.guard }], guard := some (1, true) }
def ch2Op3 : Oper := { dst := some 12, op := Op.load 22 (Operand.tmp 4), type := 22, pos := "law.go:73", after := #[{ on := 1, ground := Ground.guard }], guard := some (1, true) }
def ch2Op4 : Oper := { dst := some 13, op := Op.load 22 (Operand.tmp 5), type := 22, pos := "law.go:73", after := #[{ on := 1, ground := Ground.guard }], guard := some (1, true) }
def ch2Op5 : Oper := { dst := some 14, op := Op.call { callee := Callee.value (Operand.func 9), args := #[Operand.tmp 12, Operand.tmp 13], argTypes := #[22, 22] }, type := 22, pos := "law.go:73", after := #[{ on := 3, ground := Ground.data }, { on := 4, ground := Ground.data }, { on := 1, ground := Ground.chain }, { on := 1, ground := Ground.guard }], guard := some (1, true) }
def ch2Op6 : Oper := { dst := some 15, op := Op.call { callee := Callee.value (Operand.func 9), args := #[Operand.tmp 11, Operand.tmp 14], argTypes := #[22, 22] }, type := 22, pos := "law.go:73", after := #[{ on := 2, ground := Ground.data }, { on := 5, ground := Ground.data }, { on := 5, ground := Ground.chain }, { on := 1, ground := Ground.guard }], guard := some (1, true) }
def ch2Op7 : Oper := { dst := some 16, op := Op.load 22 (Operand.tmp 4), type := 22, pos := "law.go:73", after := #[{ on := 1, ground := Ground.guard }], guard := some (1, true) }
def ch2Op8 : Oper := { dst := some 17, op := Op.load 22 (Operand.tmp 3), type := 22, pos := "law.go:73", after := #[{ on := 1, ground := Ground.guard }], guard := some (1, true) }
def ch2Op9 : Oper := { dst := some 18, op := Op.load 22 (Operand.tmp 5), type := 22, pos := "law.go:73", after := #[{ on := 1, ground := Ground.guard }], guard := some (1, true) }
def ch2Op10 : Oper := { dst := some 19, op := Op.call { callee := Callee.value (Operand.func 9), args := #[Operand.tmp 17, Operand.tmp 18], argTypes := #[22, 22] }, type := 22, pos := "law.go:73", after := #[{ on := 8, ground := Ground.data }, { on := 9, ground := Ground.data }, { on := 6, ground := Ground.chain }, { on := 1, ground := Ground.guard }], guard := some (1, true) }
def ch2Op11 : Oper := { dst := some 20, op := Op.call { callee := Callee.value (Operand.func 9), args := #[Operand.tmp 16, Operand.tmp 19], argTypes := #[22, 22] }, type := 22, pos := "law.go:73", after := #[{ on := 7, ground := Ground.data }, { on := 10, ground := Ground.data }, { on := 10, ground := Ground.chain }, { on := 1, ground := Ground.guard }], guard := some (1, true) }
def ch2Op12 : Oper := { dst := some 21, op := Op.binOp BinOp.eql 22 (Operand.tmp 15) (Operand.tmp 20) 22, type := 4, pos := "law.go:73", after := #[{ on := 6, ground := Ground.data }, { on := 11, ground := Ground.data }, { on := 1, ground := Ground.guard }], guard := some (1, true) }
def ch2Op13 : Oper := { dst := some 22, op := Op.pick (Operand.tmp 10) (Operand.tmp 21) (Operand.const (Value.bool false)), type := 4, pos := "law.go:73", after := #[{ on := 1, ground := Ground.data }, { on := 12, ground := Ground.data }], guard := none }
def ch2Op14 : Oper := { dst := some 6, op := Op.assign (Operand.tmp 22), type := 4, pos := "law.go:73", after := #[{ on := 13, ground := Ground.data }, { on := 11, ground := Ground.chain }, { on := 0, ground := Ground.phase }, { on := 1, ground := Ground.phase }, { on := 2, ground := Ground.phase }, { on := 3, ground := Ground.phase }, { on := 4, ground := Ground.phase }, { on := 5, ground := Ground.phase }, { on := 6, ground := Ground.phase }, { on := 7, ground := Ground.phase }, { on := 8, ground := Ground.phase }, { on := 9, ground := Ground.phase }, { on := 10, ground := Ground.phase }, { on := 11, ground := Ground.phase }, { on := 12, ground := Ground.phase }, { on := 13, ground := Ground.phase }], guard := none }
def ch2Ops : Array Oper := #[ch2Op0, ch2Op1, ch2Op2, ch2Op3, ch2Op4, ch2Op5, ch2Op6, ch2Op7, ch2Op8, ch2Op9, ch2Op10, ch2Op11, ch2Op12, ch2Op13, ch2Op14]
structure ch2C (Q : Exit → Act → World → Prop) (u : World) (z0 z1 z2 z6 z8 z9 z10 z11 z12 z13 z14 z15 z16 z17 z18 z19 z20 z21 z22 : Value) (b3 b4 b5 : Nat) (f g h : Nat → Nat) : Prop where
  hQ : ∀ c a w n v, Q (.panic c) (a.put (some n) v) w → Q (.panic c) a w
  hf : ∀ i, f i < 256
  hg : ∀ i, g i < 256
  hh : ∀ i, h i < 256
  hxy : sameB (byt (xm f (byt (xm g h)))) (byt (xm g (byt (xm f h)))) = true
  hb3 : Blk u b3 (vals .u8 32 f) 22
  nb3 : b3 ∉ ([] : List Nat)
  hb4 : Blk u b4 (vals .u8 32 g) 22
  nb4 : b4 ∉ ([] : List Nat)
  hb5 : Blk u b5 (vals .u8 32 h) 22
  nb5 : b5 ∉ ([] : List Nat)
  H : ∀ (w : World), Kp [] u w → Q .normal { tmps := List.toArray (z0 :: z1 :: z2 :: (.pointer (some ⟨b3, 0, none⟩)) :: (.pointer (some ⟨b4, 0, none⟩)) :: (.pointer (some ⟨b5, 0, none⟩)) :: (.bool true) :: (.bool true) :: z8 :: (.bool true) :: (.bool true) :: (.agg (vals .u8 32 f)) :: (.agg (vals .u8 32 g)) :: (.agg (vals .u8 32 h)) :: (.agg (vals .u8 32 (byt (xm g h)))) :: (.agg (vals .u8 32 (byt (xm f (byt (xm g h)))))) :: (.agg (vals .u8 32 g)) :: (.agg (vals .u8 32 f)) :: (.agg (vals .u8 32 h)) :: (.agg (vals .u8 32 (byt (xm f h)))) :: (.agg (vals .u8 32 (byt (xm g (byt (xm f h)))))) :: (.bool true) :: (.bool true) :: []), defers := [] } w
section
variable {Q : Exit → Act → World → Prop} {u : World} {z0 z1 z2 z6 z8 z9 z10 z11 z12 z13 z14 z15 z16 z17 z18 z19 z20 z21 z22 : Value} {b3 b4 b5 : Nat} {f g h : Nat → Nat}
set_option maxRecDepth 100000 in
set_option maxHeartbeats 2000000 in
theorem ch2_0 (C : ch2C Q u z0 z1 z2 z6 z8 z9 z10 z11 z12 z13 z14 z15 z16 z17 z18 z19 z20 z21 z22 b3 b4 b5 f g h) (w : World) (hS : Kp [] u w) :
    wpAnyH Try.prog .any ch2Ops Q (Kp [] u) 0 (List.toArray (true :: true :: true :: true :: true :: true :: true :: true :: true :: true :: true :: true :: true :: true :: true :: [])) { tmps := List.toArray (z0 :: z1 :: z2 :: (.pointer (some ⟨b3, 0, none⟩)) :: (.pointer (some ⟨b4, 0, none⟩)) :: (.pointer (some ⟨b5, 0, none⟩)) :: (.bool true) :: (.bool true) :: z8 :: (.bool true) :: (.bool true) :: (.agg (vals .u8 32 f)) :: (.agg (vals .u8 32 g)) :: (.agg (vals .u8 32 h)) :: (.agg (vals .u8 32 (byt (xm g h)))) :: (.agg (vals .u8 32 (byt (xm f (byt (xm g h)))))) :: (.agg (vals .u8 32 g)) :: (.agg (vals .u8 32 f)) :: (.agg (vals .u8 32 h)) :: (.agg (vals .u8 32 (byt (xm f h)))) :: (.agg (vals .u8 32 (byt (xm g (byt (xm f h)))))) :: (.bool true) :: (.bool true) :: []), defers := [] } w := by
  exact wpAnyH_done (by kernel_rfl) (C.H  w hS ) _
set_option maxRecDepth 100000 in
set_option maxHeartbeats 2000000 in
theorem ch2_1 (C : ch2C Q u z0 z1 z2 z6 z8 z9 z10 z11 z12 z13 z14 z15 z16 z17 z18 z19 z20 z21 z22 b3 b4 b5 f g h) (w : World) (hS : Kp [] u w) :
    wpAnyH Try.prog .any ch2Ops Q (Kp [] u) 4 (List.toArray (true :: true :: true :: true :: true :: true :: true :: true :: true :: true :: true :: false :: false :: false :: false :: [])) { tmps := List.toArray (z0 :: z1 :: z2 :: (.pointer (some ⟨b3, 0, none⟩)) :: (.pointer (some ⟨b4, 0, none⟩)) :: (.pointer (some ⟨b5, 0, none⟩)) :: z6 :: (.bool true) :: z8 :: (.bool true) :: (.bool true) :: (.agg (vals .u8 32 f)) :: (.agg (vals .u8 32 g)) :: (.agg (vals .u8 32 h)) :: (.agg (vals .u8 32 (byt (xm g h)))) :: (.agg (vals .u8 32 (byt (xm f (byt (xm g h)))))) :: (.agg (vals .u8 32 g)) :: (.agg (vals .u8 32 f)) :: (.agg (vals .u8 32 h)) :: (.agg (vals .u8 32 (byt (xm f h)))) :: z20 :: z21 :: z22 :: []), defers := [] } w := by
  obtain ⟨hQ, hf, hg, hh, hxy, hb3, nb3, hb4, nb4, hb5, nb5, _⟩ := id C
  refine wpAnyH_ready (rs := [11]) (by kernel_rfl) (by simp) ?_
  refine AllReadyH.cons (o := ch2Op11) rfl (fun K hK => ?_) AllReadyH.nil
  rw [if_pos (by rfl)]
  refine wp_call_val 9 #[.agg (vals .u8 32 g), .agg (vals .u8 32 (byt (xm f h)))] (by kernel_rfl) (.agg (vals .u8 32 (byt (xm g (byt (xm f h)))))) (mul_c9 g (byt (xm f h)) _ hg (byt_lt _)) ?_
  intro w' hbw
  have hS' := hS.call hbw
  refine hK.out _ _ hS' (fun _ => ?_)
  refine wpAnyH_take (i := 12) (oi := ch2Op12) (v := .bool true) rfl (by kernel_rfl) (by kernel_rfl) (by kernel_rfl) (fun _ _ _ => hQ _ _ _ _ _) (yeq (by kernel_rfl) _ _ (byt (xm f (byt (xm g h)))) (byt (xm g (byt (xm f h)))) rfl (by kernel_rfl) (by kernel_rfl) hxy) hS' ?_
  refine wpAnyH_take (i := 13) (oi := ch2Op13) (v := .bool true) rfl (by kernel_rfl) (by kernel_rfl) (by kernel_rfl) (fun _ _ _ => hQ _ _ _ _ _) (Or.inl ⟨by kernel_rfl, fun _ _ => by kernel_rfl⟩) hS' ?_
  refine wpAnyH_take (i := 14) (oi := ch2Op14) (v := .bool true) rfl (by kernel_rfl) (by kernel_rfl) (by kernel_rfl) (fun _ _ _ => hQ _ _ _ _ _) (Or.inl ⟨by kernel_rfl, fun _ _ => by kernel_rfl⟩) hS' ?_
  exact wpAnyH_at (by kernel_rfl) (by kernel_rfl) (ch2_0 C w' hS' )
set_option maxRecDepth 100000 in
set_option maxHeartbeats 2000000 in
theorem ch2_2 (C : ch2C Q u z0 z1 z2 z6 z8 z9 z10 z11 z12 z13 z14 z15 z16 z17 z18 z19 z20 z21 z22 b3 b4 b5 f g h) (w : World) (hS : Kp [] u w) :
    wpAnyH Try.prog .any ch2Ops Q (Kp [] u) 5 (List.toArray (true :: true :: true :: true :: true :: true :: true :: true :: true :: true :: false :: false :: false :: false :: false :: [])) { tmps := List.toArray (z0 :: z1 :: z2 :: (.pointer (some ⟨b3, 0, none⟩)) :: (.pointer (some ⟨b4, 0, none⟩)) :: (.pointer (some ⟨b5, 0, none⟩)) :: z6 :: (.bool true) :: z8 :: (.bool true) :: (.bool true) :: (.agg (vals .u8 32 f)) :: (.agg (vals .u8 32 g)) :: (.agg (vals .u8 32 h)) :: (.agg (vals .u8 32 (byt (xm g h)))) :: (.agg (vals .u8 32 (byt (xm f (byt (xm g h)))))) :: (.agg (vals .u8 32 g)) :: (.agg (vals .u8 32 f)) :: (.agg (vals .u8 32 h)) :: z19 :: z20 :: z21 :: z22 :: []), defers := [] } w := by
  obtain ⟨hQ, hf, hg, hh, hxy, hb3, nb3, hb4, nb4, hb5, nb5, _⟩ := id C
  refine wpAnyH_ready (rs := [10]) (by kernel_rfl) (by simp) ?_
  refine AllReadyH.cons (o := ch2Op10) rfl (fun K hK => ?_) AllReadyH.nil
  rw [if_pos (by rfl)]
  refine wp_call_val 9 #[.agg (vals .u8 32 f), .agg (vals .u8 32 h)] (by kernel_rfl) (.agg (vals .u8 32 (byt (xm f h)))) (mul_c9 f h _ hf hh) ?_
  intro w' hbw
  have hS' := hS.call hbw
  refine hK.out _ _ hS' (fun _ => ?_)
  exact wpAnyH_at (by kernel_rfl) (by kernel_rfl) (ch2_1 C w' hS' )
set_option maxRecDepth 100000 in
set_option maxHeartbeats 2000000 in
theorem ch2_3 (C : ch2C Q u z0 z1 z2 z6 z8 z9 z10 z11 z12 z13 z14 z15 z16 z17 z18 z19 z20 z21 z22 b3 b4 b5 f g h) (w : World) (hS : Kp [] u w) :
    wpAnyH Try.prog .any ch2Ops Q (Kp [] u) 6 (List.toArray (true :: true :: true :: true :: true :: true :: false :: true :: true :: true :: false :: false :: false :: false :: false :: [])) { tmps := List.toArray (z0 :: z1 :: z2 :: (.pointer (some ⟨b3, 0, none⟩)) :: (.pointer (some ⟨b4, 0, none⟩)) :: (.pointer (some ⟨b5, 0, none⟩)) :: z6 :: (.bool true) :: z8 :: (.bool true) :: (.bool true) :: (.agg (vals .u8 32 f)) :: (.agg (vals .u8 32 g)) :: (.agg (vals .u8 32 h)) :: (.agg (vals .u8 32 (byt (xm g h)))) :: z15 :: (.agg (vals .u8 32 g)) :: (.agg (vals .u8 32 f)) :: (.agg (vals .u8 32 h)) :: z19 :: z20 :: z21 :: z22 :: []), defers := [] } w := by
  obtain ⟨hQ, hf, hg, hh, hxy, hb3, nb3, hb4, nb4, hb5, nb5, _⟩ := id C
  refine wpAnyH_ready (rs := [6]) (by kernel_rfl) (by simp) ?_
  refine AllReadyH.cons (o := ch2Op6) rfl (fun K hK => ?_) AllReadyH.nil
  rw [if_pos (by rfl)]
  refine wp_call_val 9 #[.agg (vals .u8 32 f), .agg (vals .u8 32 (byt (xm g h)))] (by kernel_rfl) (.agg (vals .u8 32 (byt (xm f (byt (xm g h)))))) (mul_c9 f (byt (xm g h)) _ hf (byt_lt _)) ?_
  intro w' hbw
  have hS' := hS.call hbw
  refine hK.out _ _ hS' (fun _ => ?_)
  exact wpAnyH_at (by kernel_rfl) (by kernel_rfl) (ch2_2 C w' hS' )
set_option maxRecDepth 100000 in
set_option maxHeartbeats 2000000 in
theorem ch2_4 (C : ch2C Q u z0 z1 z2 z6 z8 z9 z10 z11 z12 z13 z14 z15 z16 z17 z18 z19 z20 z21 z22 b3 b4 b5 f g h) (w : World) (hS : Kp [] u w) :
    wpAnyH Try.prog .any ch2Ops Q (Kp [] u) 7 (List.toArray (true :: true :: true :: true :: true :: false :: false :: true :: true :: true :: false :: false :: false :: false :: false :: [])) { tmps := List.toArray (z0 :: z1 :: z2 :: (.pointer (some ⟨b3, 0, none⟩)) :: (.pointer (some ⟨b4, 0, none⟩)) :: (.pointer (some ⟨b5, 0, none⟩)) :: z6 :: (.bool true) :: z8 :: (.bool true) :: (.bool true) :: (.agg (vals .u8 32 f)) :: (.agg (vals .u8 32 g)) :: (.agg (vals .u8 32 h)) :: z14 :: z15 :: (.agg (vals .u8 32 g)) :: (.agg (vals .u8 32 f)) :: (.agg (vals .u8 32 h)) :: z19 :: z20 :: z21 :: z22 :: []), defers := [] } w := by
  obtain ⟨hQ, hf, hg, hh, hxy, hb3, nb3, hb4, nb4, hb5, nb5, _⟩ := id C
  refine wpAnyH_ready (rs := [5]) (by kernel_rfl) (by simp) ?_
  refine AllReadyH.cons (o := ch2Op5) rfl (fun K hK => ?_) AllReadyH.nil
  rw [if_pos (by rfl)]
  refine wp_call_val 9 #[.agg (vals .u8 32 g), .agg (vals .u8 32 h)] (by kernel_rfl) (.agg (vals .u8 32 (byt (xm g h)))) (mul_c9 g h _ hg hh) ?_
  intro w' hbw
  have hS' := hS.call hbw
  refine hK.out _ _ hS' (fun _ => ?_)
  exact wpAnyH_at (by kernel_rfl) (by kernel_rfl) (ch2_3 C w' hS' )
end
set_option maxRecDepth 100000 in
set_option maxHeartbeats 2000000 in
theorem ch2_region (Q : Exit → Act → World → Prop) (hQ : ∀ c a w n v, Q (.panic c) (a.put (some n) v) w → Q (.panic c) a w) (u : World) (z0 z1 z2 z6 z8 z9 z10 z11 z12 z13 z14 z15 z16 z17 z18 z19 z20 z21 z22 : Value) (b3 b4 b5 : Nat) (f g h : Nat → Nat) (hf : ∀ i, f i < 256) (hg : ∀ i, g i < 256) (hh : ∀ i, h i < 256) (hxy : sameB (byt (xm f (byt (xm g h)))) (byt (xm g (byt (xm f h)))) = true) (hb3 : Blk u b3 (vals .u8 32 f) 22) (nb3 : b3 ∉ ([] : List Nat)) (hb4 : Blk u b4 (vals .u8 32 g) 22) (nb4 : b4 ∉ ([] : List Nat)) (hb5 : Blk u b5 (vals .u8 32 h) 22) (nb5 : b5 ∉ ([] : List Nat)) (H : ∀ (w : World), Kp [] u w → Q .normal { tmps := List.toArray (z0 :: z1 :: z2 :: (.pointer (some ⟨b3, 0, none⟩)) :: (.pointer (some ⟨b4, 0, none⟩)) :: (.pointer (some ⟨b5, 0, none⟩)) :: (.bool true) :: (.bool true) :: z8 :: (.bool true) :: (.bool true) :: (.agg (vals .u8 32 f)) :: (.agg (vals .u8 32 g)) :: (.agg (vals .u8 32 h)) :: (.agg (vals .u8 32 (byt (xm g h)))) :: (.agg (vals .u8 32 (byt (xm f (byt (xm g h)))))) :: (.agg (vals .u8 32 g)) :: (.agg (vals .u8 32 f)) :: (.agg (vals .u8 32 h)) :: (.agg (vals .u8 32 (byt (xm f h)))) :: (.agg (vals .u8 32 (byt (xm g (byt (xm f h)))))) :: (.bool true) :: (.bool true) :: []), defers := [] } w) :
    (Code.region 2 ch2Ops true).wp Try.prog Q { tmps := List.toArray (z0 :: z1 :: z2 :: (.pointer (some ⟨b3, 0, none⟩)) :: (.pointer (some ⟨b4, 0, none⟩)) :: (.pointer (some ⟨b5, 0, none⟩)) :: z6 :: (.bool true) :: z8 :: z9 :: z10 :: z11 :: z12 :: z13 :: z14 :: z15 :: z16 :: z17 :: z18 :: z19 :: z20 :: z21 :: z22 :: []), defers := [] } u := by
  have C : ch2C Q u z0 z1 z2 z6 z8 z9 z10 z11 z12 z13 z14 z15 z16 z17 z18 z19 z20 z21 z22 b3 b4 b5 f g h := ⟨hQ, hf, hg, hh, hxy, hb3, nb3, hb4, nb4, hb5, nb5, H⟩
  refine wp_region_held_drew (S := (Kp [] u)) (by kernel_rfl) (Kp.drew _ u) (fun hS' => ?_)
  refine wpAnyH_take (i := 0) (oi := ch2Op0) (v := .bool true) rfl (by kernel_rfl) (by kernel_rfl) (by kernel_rfl) (fun _ _ _ => hQ _ _ _ _ _) (Or.inl ⟨by kernel_rfl, fun _ _ => by kernel_rfl⟩) hS' ?_
  refine wpAnyH_take (i := 1) (oi := ch2Op1) (v := .bool true) rfl (by kernel_rfl) (by kernel_rfl) (by kernel_rfl) (fun _ _ _ => hQ _ _ _ _ _) (Or.inl ⟨by kernel_rfl, fun _ _ => by kernel_rfl⟩) hS' ?_
  refine wpAnyH_take (i := 2) (oi := ch2Op2) (v := .agg (vals .u8 32 f)) rfl (by kernel_rfl) (by kernel_rfl) (by kernel_rfl) (fun _ _ _ => hQ _ _ _ _ _) (yields_S (fun _ h => h.keep _ _ _ nb3 hb3) (by kernel_rfl) 22 _ rfl (by kernel_rfl) _ Try.underlying22 rfl (size_by _)) hS' ?_
  refine wpAnyH_at (listed' := (List.toArray (true :: true :: true :: false :: false :: false :: false :: false :: false :: false :: false :: false :: false :: false :: false :: []))) (a' := { tmps := List.toArray (z0 :: z1 :: z2 :: (.pointer (some ⟨b3, 0, none⟩)) :: (.pointer (some ⟨b4, 0, none⟩)) :: (.pointer (some ⟨b5, 0, none⟩)) :: z6 :: (.bool true) :: z8 :: (.bool true) :: (.bool true) :: (.agg (vals .u8 32 f)) :: z12 :: z13 :: z14 :: z15 :: z16 :: z17 :: z18 :: z19 :: z20 :: z21 :: z22 :: []), defers := [] }) (by kernel_rfl) (by kernel_rfl) ?_
  refine wpAnyH_take (i := 3) (oi := ch2Op3) (v := .agg (vals .u8 32 g)) rfl (by kernel_rfl) (by kernel_rfl) (by kernel_rfl) (fun _ _ _ => hQ _ _ _ _ _) (yields_S (fun _ h => h.keep _ _ _ nb4 hb4) (by kernel_rfl) 22 _ rfl (by kernel_rfl) _ Try.underlying22 rfl (size_by _)) hS' ?_
  refine wpAnyH_take (i := 4) (oi := ch2Op4) (v := .agg (vals .u8 32 h)) rfl (by kernel_rfl) (by kernel_rfl) (by kernel_rfl) (fun _ _ _ => hQ _ _ _ _ _) (yields_S (fun _ h => h.keep _ _ _ nb5 hb5) (by kernel_rfl) 22 _ rfl (by kernel_rfl) _ Try.underlying22 rfl (size_by _)) hS' ?_
  refine wpAnyH_take (i := 7) (oi := ch2Op7) (v := .agg (vals .u8 32 g)) rfl (by kernel_rfl) (by kernel_rfl) (by kernel_rfl) (fun _ _ _ => hQ _ _ _ _ _) (yields_S (fun _ h => h.keep _ _ _ nb4 hb4) (by kernel_rfl) 22 _ rfl (by kernel_rfl) _ Try.underlying22 rfl (size_by _)) hS' ?_
  refine wpAnyH_at (listed' := (List.toArray (true :: true :: true :: true :: true :: false :: false :: true :: false :: false :: false :: false :: false :: false :: false :: []))) (a' := { tmps := List.toArray (z0 :: z1 :: z2 :: (.pointer (some ⟨b3, 0, none⟩)) :: (.pointer (some ⟨b4, 0, none⟩)) :: (.pointer (some ⟨b5, 0, none⟩)) :: z6 :: (.bool true) :: z8 :: (.bool true) :: (.bool true) :: (.agg (vals .u8 32 f)) :: (.agg (vals .u8 32 g)) :: (.agg (vals .u8 32 h)) :: z14 :: z15 :: (.agg (vals .u8 32 g)) :: z17 :: z18 :: z19 :: z20 :: z21 :: z22 :: []), defers := [] }) (by kernel_rfl) (by kernel_rfl) ?_
  refine wpAnyH_take (i := 8) (oi := ch2Op8) (v := .agg (vals .u8 32 f)) rfl (by kernel_rfl) (by kernel_rfl) (by kernel_rfl) (fun _ _ _ => hQ _ _ _ _ _) (yields_S (fun _ h => h.keep _ _ _ nb3 hb3) (by kernel_rfl) 22 _ rfl (by kernel_rfl) _ Try.underlying22 rfl (size_by _)) hS' ?_
  refine wpAnyH_take (i := 9) (oi := ch2Op9) (v := .agg (vals .u8 32 h)) rfl (by kernel_rfl) (by kernel_rfl) (by kernel_rfl) (fun _ _ _ => hQ _ _ _ _ _) (yields_S (fun _ h => h.keep _ _ _ nb5 hb5) (by kernel_rfl) 22 _ rfl (by kernel_rfl) _ Try.underlying22 rfl (size_by _)) hS' ?_
  exact wpAnyH_at (by kernel_rfl) (by kernel_rfl) (ch2_4 C u.drew hS' )
set_option maxRecDepth 100000 in
set_option maxHeartbeats 2000000 in
theorem chain_walk (f g h : Nat → Nat) (w : World) (hf : ∀ i, f i < 256) (hg : ∀ i, g i < 256) (hh : ∀ i, h i < 256) : Ret 7 #[.agg (vals .u8 32 f), .agg (vals .u8 32 g), .agg (vals .u8 32 h)] w (.bool true) := by
  have hxy : sameB (byt (xm f (byt (xm g h)))) (byt (xm g (byt (xm f h)))) = true := by rw [xm_chain f g h]; exact same_self _
  go_enter Try.func7, Try.ntmps7
  go_upto_region 0 with (fail)
  refine ch0_region _ (fun _ _ _ _ _ h => h) w _ _ _ _ _ f g h ?_
  intro n3 n4 n5 w1 hK g3 B3 g4 B4 g5 B5 e34 e35 e45
  have hL1 := hK.below w _ (Nat.le_refl _) (Below.refl _ w)
  have s1 := hK.size
  go_upto_region 1 with (fail)
  refine ch1_region _ (fun _ _ _ _ _ h => h) w1 _ _ _ _ _ _ _ _ _ _ ?_
  intro w2 hK2
  have C3 := hK2.keep _ _ _ (not_nil _) B3
  have C4 := hK2.keep _ _ _ (not_nil _) B4
  have C5 := hK2.keep _ _ _ (not_nil _) B5
  have hL2 := hK2.below w _ s1 hL1
  have s2 := Nat.le_trans s1 hK2.size
  go_upto_region 2 with (fail)
  refine ch2_region _ (fun _ _ _ _ _ h => h) w2 _ _ _ _ _ _ _ _ _ _ _ _ _ _ _ _ _ _ _ n3 n4 n5 f g h hf hg hh hxy C3 (not_nil _) C4 (not_nil _) C5 (not_nil _) ?_
  intro w3 hK3
  have hL3 := hK3.below w _ s2 hL2
  have s3 := Nat.le_trans s2 hK3.size
  go_wp2_with fail
  go_ret
  exact ⟨rfl, hL3⟩
end Go.Proofs.Ytidhffaphbiapaa

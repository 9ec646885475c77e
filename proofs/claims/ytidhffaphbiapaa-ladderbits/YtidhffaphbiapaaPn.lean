/- Walks: LadderBits. -/
import Derived.Test.YtidhffaphbiapaaPk
namespace Go.Proofs.Ytidhffaphbiapaa
open F Go.RowKit

theorem and7 (l : Nat) (h : l < 256) : bits .and .u8 (l : Int) 7 = ((l % 8 : Nat) : Int) := by
  have := (by decide +kernel : ∀ i : Fin 256, bits .and .u8 ((i.val : Nat) : Int) 7 = ((i.val % 8 : Nat) : Int)) ⟨l, h⟩
  exact this
theorem and192 (l : Nat) (h : l < 256) : bits .and .u8 (l : Int) 192 = ((l / 64 * 64 : Nat) : Int) := by
  have := (by decide +kernel : ∀ i : Fin 256, bits .and .u8 ((i.val : Nat) : Int) 192 = ((i.val / 64 * 64 : Nat) : Int)) ⟨l, h⟩
  exact this
theorem xor_low (x m : Nat) (hx : x < 256) (hm : m < 8) : ∃ v : Nat, bits .xor .u8 (x : Int) (m : Int) = ((v : Nat) : Int) ∧ v < 256 ∧ v / 8 = x / 8 := by
  have := (by decide +kernel : ∀ i : Fin 256, ∀ j : Fin 8, bits .xor .u8 ((i.val : Nat) : Int) ((j.val : Nat) : Int) = (((bits .xor .u8 ((i.val : Nat) : Int) ((j.val : Nat) : Int)).toNat : Nat) : Int) ∧ (bits .xor .u8 ((i.val : Nat) : Int) ((j.val : Nat) : Int)).toNat < 256 ∧ (bits .xor .u8 ((i.val : Nat) : Int) ((j.val : Nat) : Int)).toNat / 8 = i.val / 8) ⟨x, hx⟩ ⟨m, hm⟩
  exact ⟨_, this⟩
theorem xor_high (x m : Nat) (hx : x < 256) (hm : m < 4) : ∃ v : Nat, bits .xor .u8 (x : Int) ((m * 64 : Nat) : Int) = ((v : Nat) : Int) ∧ v < 256 ∧ v % 64 = x % 64 := by
  have := (by decide +kernel : ∀ i : Fin 256, ∀ j : Fin 4, bits .xor .u8 ((i.val : Nat) : Int) ((j.val * 64 : Nat) : Int) = (((bits .xor .u8 ((i.val : Nat) : Int) ((j.val * 64 : Nat) : Int)).toNat : Nat) : Int) ∧ (bits .xor .u8 ((i.val : Nat) : Int) ((j.val * 64 : Nat) : Int)).toNat < 256 ∧ (bits .xor .u8 ((i.val : Nat) : Int) ((j.val * 64 : Nat) : Int)).toNat % 64 = i.val % 64) ⟨x, hx⟩ ⟨m, hm⟩
  exact ⟨_, this⟩
theorem xor_top (x : Nat) (hx : x < 256) : ∃ v : Nat, bits .xor .u8 (x : Int) 128 = ((v : Nat) : Int) ∧ v < 256 ∧ v % 128 = x % 128 := by
  have := (by decide +kernel : ∀ i : Fin 256, bits .xor .u8 ((i.val : Nat) : Int) 128 = (((bits .xor .u8 ((i.val : Nat) : Int) 128).toNat : Nat) : Int) ∧ (bits .xor .u8 ((i.val : Nat) : Int) 128).toNat < 256 ∧ (bits .xor .u8 ((i.val : Nat) : Int) 128).toNat % 128 = i.val % 128) ⟨x, hx⟩
  exact ⟨_, this⟩
theorem clr_top (x : Nat) (hx : x < 256) : bits .andNot .u8 (x : Int) 128 = ((x % 128 : Nat) : Int) := by
  have := (by decide +kernel : ∀ i : Fin 256, bits .andNot .u8 ((i.val : Nat) : Int) 128 = ((i.val % 128 : Nat) : Int)) ⟨x, hx⟩
  exact this
def bi0Op0 : Oper := { dst := some 4, op := Op.box 22 (Operand.tmp 0), type := 0, pos := "law.go:38", after := #[], guard := none }
def bi0Op1 : Oper := { dst := some 5, op := Op.box 22 (Operand.tmp 1), type := 0, pos := "law.go:38", after := #[], guard := none }
def bi0Op2 : Oper := { dst := some 8, op := Op.assign (Operand.const (Value.bool false)), type := 4, pos := "law.go:38", after := #[], guard := none }
def bi0Ops : Array Oper := #[bi0Op0, bi0Op1, bi0Op2]
set_option maxRecDepth 100000 in
set_option maxHeartbeats 2000000 in
theorem bi0_region (Q : Exit → Act → World → Prop) (hQ : ∀ c a w n v, Q (.panic c) (a.put (some n) v) w → Q (.panic c) a w) (u : World) (z2 z3 z4 z5 z6 z7 z8 : Value) (zz : List Value) (f g : Nat → Nat) (H : ∀ (n4 : Nat) (n5 : Nat) (w : World), Kp [] u w → u.heap.size ≤ n4 → Blk w n4 (vals .u8 32 f) 22 → u.heap.size ≤ n5 → Blk w n5 (vals .u8 32 g) 22 → n4 ≠ n5 → Q .normal { tmps := List.toArray ((.agg (vals .u8 32 f)) :: (.agg (vals .u8 32 g)) :: z2 :: z3 :: (.pointer (some ⟨n4, 0, none⟩)) :: (.pointer (some ⟨n5, 0, none⟩)) :: z6 :: z7 :: (.bool false) :: zz), defers := [] } w) :
    (Code.region 0 bi0Ops false).wp Try.prog Q { tmps := List.toArray ((.agg (vals .u8 32 f)) :: (.agg (vals .u8 32 g)) :: z2 :: z3 :: z4 :: z5 :: z6 :: z7 :: z8 :: zz), defers := [] } u := by
  have _ := hQ
  have _ := u
  have _ := z2
  have _ := z3
  have _ := z4
  have _ := z5
  have _ := z6
  have _ := z7
  have _ := z8
  have _ := zz
  have _ := f
  have _ := g
  refine wp_region_list (show wpList _ bi0Ops _ [bi0Op0, bi0Op1, bi0Op2] _ _ from ?_)
  have hS : Kp [] u u := Kp.refl _ u
  refine wpList_plain rfl (fun K hK => ?_)
  refine wp_new _ 22 (box_by _ _ _ _ f rfl (by kernel_rfl)) ?_
  intro n4 w0 eb Bn4 hbw
  have hS' := hS.call hbw
  refine hK _ _ ?_
  clear hK K
  have qgn4 : u.heap.size ≤ n4 := (by rw [eb]; exact hS.size)
  have qBn4 : Blk w0 n4 (vals .u8 32 f) 22 := Bn4
  clear hS
  have gn4 := qgn4
  have Bn4 := qBn4
  have hS := hS'
  clear hS' qgn4 qBn4
  refine wpList_fr (a' := { tmps := List.toArray ((.agg (vals .u8 32 f)) :: (.agg (vals .u8 32 g)) :: z2 :: z3 :: (.pointer (some ⟨n4, 0, none⟩)) :: z5 :: z6 :: z7 :: z8 :: zz), defers := [] }) (by kernel_rfl) ?_
  refine wpList_plain rfl (fun K hK => ?_)
  refine wp_new _ 22 (box_by _ _ _ _ g rfl (by kernel_rfl)) ?_
  intro n5 w1 eb Bn5 hbw
  have hS' := hS.call hbw
  refine hK _ _ ?_
  clear hK K
  have qgn4 : u.heap.size ≤ n4 := gn4
  have qBn4 : Blk w1 n4 (vals .u8 32 f) 22 := (Bn4.call hbw)
  have qgn5 : u.heap.size ≤ n5 := (by rw [eb]; exact hS.size)
  have qBn5 : Blk w1 n5 (vals .u8 32 g) 22 := Bn5
  have qen4n5 : n4 ≠ n5 := (by rw [eb]; exact Nat.ne_of_lt Bn4.lt)
  clear hS gn4 Bn4
  have gn4 := qgn4
  have Bn4 := qBn4
  have gn5 := qgn5
  have Bn5 := qBn5
  have en4n5 := qen4n5
  have hS := hS'
  clear hS' qgn4 qBn4 qgn5 qBn5 qen4n5
  refine wpList_fr (a' := { tmps := List.toArray ((.agg (vals .u8 32 f)) :: (.agg (vals .u8 32 g)) :: z2 :: z3 :: (.pointer (some ⟨n4, 0, none⟩)) :: (.pointer (some ⟨n5, 0, none⟩)) :: z6 :: z7 :: z8 :: zz), defers := [] }) (by kernel_rfl) ?_
  refine wpList_plain rfl (fun K hK => ?_)
  refine wp_val (.bool false) (by kernel_rfl) ?_
  have hS' := hS
  refine hK _ _ ?_
  clear hK K
  have qgn4 : u.heap.size ≤ n4 := gn4
  have qBn4 : Blk w1 n4 (vals .u8 32 f) 22 := Bn4
  have qgn5 : u.heap.size ≤ n5 := gn5
  have qBn5 : Blk w1 n5 (vals .u8 32 g) 22 := Bn5
  have qen4n5 : n4 ≠ n5 := en4n5
  clear hS gn4 Bn4 gn5 Bn5 en4n5
  have gn4 := qgn4
  have Bn4 := qBn4
  have gn5 := qgn5
  have Bn5 := qBn5
  have en4n5 := qen4n5
  have hS := hS'
  clear hS' qgn4 qBn4 qgn5 qBn5 qen4n5
  refine wpList_fr (a' := { tmps := List.toArray ((.agg (vals .u8 32 f)) :: (.agg (vals .u8 32 g)) :: z2 :: z3 :: (.pointer (some ⟨n4, 0, none⟩)) :: (.pointer (some ⟨n5, 0, none⟩)) :: z6 :: z7 :: (.bool false) :: zz), defers := [] }) (by kernel_rfl) ?_
  refine wpList_nil ?_
  exact H n4 n5 w1 hS gn4 Bn4 gn5 Bn5 en4n5
def bi1Op0 : Oper := { dst := some 15, op := Op.call { callee := Callee.value (Operand.func 8), args := #[], argTypes := #[] }, type := 4, pos := "law.go:39", after := #[], guard := none }
def bi1Op1 : Oper := { dst := some 9, op := Op.assign (Operand.tmp 15), type := 4, pos := "law.go:39", after := #[{ on := 0, ground := Ground.data }, { on := 0, ground := Ground.chain }, { on := 0, ground := Ground.phase }], guard := none }
def bi1Ops : Array Oper := #[bi1Op0, bi1Op1]
set_option maxRecDepth 100000 in
set_option maxHeartbeats 2000000 in
theorem bi1_region (Q : Exit → Act → World → Prop) (hQ : ∀ c a w n v, Q (.panic c) (a.put (some n) v) w → Q (.panic c) a w) (u : World) (z0 z1 z2 z3 z4 z5 z6 z7 z8 z9 z10 z11 z12 z13 z14 z15 : Value) (zz : List Value) (H : ∀ (w : World), Kp [] u w → Q .normal { tmps := List.toArray (z0 :: z1 :: z2 :: z3 :: z4 :: z5 :: z6 :: z7 :: z8 :: (.bool true) :: z10 :: z11 :: z12 :: z13 :: z14 :: (.bool true) :: zz), defers := [] } w) :
    (Code.region 1 bi1Ops false).wp Try.prog Q { tmps := List.toArray (z0 :: z1 :: z2 :: z3 :: z4 :: z5 :: z6 :: z7 :: z8 :: z9 :: z10 :: z11 :: z12 :: z13 :: z14 :: z15 :: zz), defers := [] } u := by
  have _ := hQ
  have _ := u
  have _ := z0
  have _ := z1
  have _ := z2
  have _ := z3
  have _ := z4
  have _ := z5
  have _ := z6
  have _ := z7
  have _ := z8
  have _ := z9
  have _ := z10
  have _ := z11
  have _ := z12
  have _ := z13
  have _ := z14
  have _ := z15
  have _ := zz
  refine wp_region_list (show wpList _ bi1Ops _ [bi1Op0, bi1Op1] _ _ from ?_)
  have hS : Kp [] u u := Kp.refl _ u
  refine wpList_plain rfl (fun K hK => ?_)
  refine wp_call_val 8 #[] (by kernel_rfl) (.bool true) (awake_c _) ?_
  intro w0 hbw
  have hS' := hS.call hbw
  refine hK _ _ ?_
  clear hK K
  clear hS
  have hS := hS'
  clear hS'
  refine wpList_fr (a' := { tmps := List.toArray (z0 :: z1 :: z2 :: z3 :: z4 :: z5 :: z6 :: z7 :: z8 :: z9 :: z10 :: z11 :: z12 :: z13 :: z14 :: (.bool true) :: zz), defers := [] }) (by kernel_rfl) ?_
  refine wpList_plain rfl (fun K hK => ?_)
  refine wp_val (.bool true) (by kernel_rfl) ?_
  have hS' := hS
  refine hK _ _ ?_
  clear hK K
  clear hS
  have hS := hS'
  clear hS'
  refine wpList_fr (a' := { tmps := List.toArray (z0 :: z1 :: z2 :: z3 :: z4 :: z5 :: z6 :: z7 :: z8 :: (.bool true) :: z10 :: z11 :: z12 :: z13 :: z14 :: (.bool true) :: zz), defers := [] }) (by kernel_rfl) ?_
  refine wpList_nil ?_
  exact H  w0 hS 
def bi2Op0 : Oper := { dst := some 16, op := Op.load 22 (Operand.tmp 4), type := 22, pos := "law.go:40", after := #[], guard := none }
def bi2Op1 : Oper := { dst := some 17, op := Op.load 22 (Operand.tmp 5), type := 22, pos := "law.go:40", after := #[], guard := none }
def bi2Op2 : Oper := { dst := some 18, op := Op.call { callee := Callee.value (Operand.func 9), args := #[Operand.tmp 16, Operand.tmp 17], argTypes := #[22, 22] }, type := 22, pos := "law.go:40", after := #[{ on := 0, ground := Ground.data }, { on := 1, ground := Ground.data }], guard := none }
def bi2Op3 : Oper := { dst := some 10, op := Op.alloc 22, type := 0, pos := "law.go:40", after := #[], guard := none }
def bi2Op4 : Oper := { dst := none, op := Op.store 22 (Operand.tmp 10) (Operand.tmp 18), type := 0, pos := "law.go:40", after := #[{ on := 3, ground := Ground.data }, { on := 2, ground := Ground.data }, { on := 2, ground := Ground.chain }, { on := 0, ground := Ground.phase }, { on := 1, ground := Ground.phase }, { on := 2, ground := Ground.phase }, { on := 3, ground := Ground.phase }], guard := none }
def bi2Ops : Array Oper := #[bi2Op0, bi2Op1, bi2Op2, bi2Op3, bi2Op4]
set_option maxRecDepth 100000 in
set_option maxHeartbeats 2000000 in
theorem bi2_region (Q : Exit → Act → World → Prop) (hQ : ∀ c a w n v, Q (.panic c) (a.put (some n) v) w → Q (.panic c) a w) (u : World) (z0 z1 z2 z3 z6 z7 z8 z9 z10 z11 z12 z13 z14 z15 z16 z17 z18 : Value) (zz : List Value) (b4 b5 : Nat) (f g : Nat → Nat) (hf : ∀ i, f i < 256) (hg : ∀ i, g i < 256) (hb4 : Blk u b4 (vals .u8 32 f) 22) (nb4 : b4 ∉ ([] : List Nat)) (hb5 : Blk u b5 (vals .u8 32 g) 22) (nb5 : b5 ∉ ([] : List Nat)) (H : ∀ (n10 : Nat) (w : World), Kp [] u w → u.heap.size ≤ n10 → Blk w n10 (vals .u8 32 (byt (xm f g))) 22 → Q .normal { tmps := List.toArray (z0 :: z1 :: z2 :: z3 :: (.pointer (some ⟨b4, 0, none⟩)) :: (.pointer (some ⟨b5, 0, none⟩)) :: z6 :: z7 :: z8 :: z9 :: (.pointer (some ⟨n10, 0, none⟩)) :: z11 :: z12 :: z13 :: z14 :: z15 :: (.agg (vals .u8 32 f)) :: (.agg (vals .u8 32 g)) :: (.agg (vals .u8 32 (byt (xm f g)))) :: zz), defers := [] } w) :
    (Code.region 2 bi2Ops false).wp Try.prog Q { tmps := List.toArray (z0 :: z1 :: z2 :: z3 :: (.pointer (some ⟨b4, 0, none⟩)) :: (.pointer (some ⟨b5, 0, none⟩)) :: z6 :: z7 :: z8 :: z9 :: z10 :: z11 :: z12 :: z13 :: z14 :: z15 :: z16 :: z17 :: z18 :: zz), defers := [] } u := by
  have _ := hQ
  have _ := u
  have _ := z0
  have _ := z1
  have _ := z2
  have _ := z3
  have _ := z6
  have _ := z7
  have _ := z8
  have _ := z9
  have _ := z10
  have _ := z11
  have _ := z12
  have _ := z13
  have _ := z14
  have _ := z15
  have _ := z16
  have _ := z17
  have _ := z18
  have _ := zz
  have _ := b4
  have _ := b5
  have _ := f
  have _ := g
  have _ := hf
  have _ := hg
  have _ := hb4
  have _ := nb4
  have _ := hb5
  have _ := nb5
  refine wp_region_list (show wpList _ bi2Ops _ [bi2Op0, bi2Op1, bi2Op2, bi2Op3, bi2Op4] _ _ from ?_)
  have hS : Kp [] u u := Kp.refl _ u
  refine wpList_plain rfl (fun K hK => ?_)
  refine wp_load_row 22 _ rfl b4 (by kernel_rfl) 22 _ (0, 0) _ (hS.keep _ _ _ nb4 hb4) Try.underlying22 rfl (size_by _) ?_
  have hS' := hS
  refine hK _ _ ?_
  clear hK K
  clear hS
  have hS := hS'
  clear hS'
  refine wpList_fr (a' := { tmps := List.toArray (z0 :: z1 :: z2 :: z3 :: (.pointer (some ⟨b4, 0, none⟩)) :: (.pointer (some ⟨b5, 0, none⟩)) :: z6 :: z7 :: z8 :: z9 :: z10 :: z11 :: z12 :: z13 :: z14 :: z15 :: (.agg (vals .u8 32 f)) :: z17 :: z18 :: zz), defers := [] }) (by kernel_rfl) ?_
  refine wpList_plain rfl (fun K hK => ?_)
  refine wp_load_row 22 _ rfl b5 (by kernel_rfl) 22 _ (0, 0) _ (hS.keep _ _ _ nb5 hb5) Try.underlying22 rfl (size_by _) ?_
  have hS' := hS
  refine hK _ _ ?_
  clear hK K
  clear hS
  have hS := hS'
  clear hS'
  refine wpList_fr (a' := { tmps := List.toArray (z0 :: z1 :: z2 :: z3 :: (.pointer (some ⟨b4, 0, none⟩)) :: (.pointer (some ⟨b5, 0, none⟩)) :: z6 :: z7 :: z8 :: z9 :: z10 :: z11 :: z12 :: z13 :: z14 :: z15 :: (.agg (vals .u8 32 f)) :: (.agg (vals .u8 32 g)) :: z18 :: zz), defers := [] }) (by kernel_rfl) ?_
  refine wpList_plain rfl (fun K hK => ?_)
  refine wp_call_val 9 #[.agg (vals .u8 32 f), .agg (vals .u8 32 g)] (by kernel_rfl) (.agg (vals .u8 32 (byt (xm f g)))) (mul_c9 f g _ hf hg) ?_
  intro w2 hbw
  have hS' := hS.call hbw
  refine hK _ _ ?_
  clear hK K
  clear hS
  have hS := hS'
  clear hS'
  refine wpList_fr (a' := { tmps := List.toArray (z0 :: z1 :: z2 :: z3 :: (.pointer (some ⟨b4, 0, none⟩)) :: (.pointer (some ⟨b5, 0, none⟩)) :: z6 :: z7 :: z8 :: z9 :: z10 :: z11 :: z12 :: z13 :: z14 :: z15 :: (.agg (vals .u8 32 f)) :: (.agg (vals .u8 32 g)) :: (.agg (vals .u8 32 (byt (xm f g)))) :: zz), defers := [] }) (by kernel_rfl) ?_
  refine wpList_plain rfl (fun K hK => ?_)
  refine wp_new _ 22 (alloc_by _ _ _ rfl) ?_
  intro n10 w3 eb Bn10 hbw
  have hS' := hS.call hbw
  refine hK _ _ ?_
  clear hK K
  have qgn10 : u.heap.size ≤ n10 := (by rw [eb]; exact hS.size)
  have qBn10 : Blk w3 n10 (vals .u8 32 (fun _ => 0)) 22 := Bn10
  clear hS
  have gn10 := qgn10
  have Bn10 := qBn10
  have hS := hS'
  clear hS' qgn10 qBn10
  refine wpList_fr (a' := { tmps := List.toArray (z0 :: z1 :: z2 :: z3 :: (.pointer (some ⟨b4, 0, none⟩)) :: (.pointer (some ⟨b5, 0, none⟩)) :: z6 :: z7 :: z8 :: z9 :: (.pointer (some ⟨n10, 0, none⟩)) :: z11 :: z12 :: z13 :: z14 :: z15 :: (.agg (vals .u8 32 f)) :: (.agg (vals .u8 32 g)) :: (.agg (vals .u8 32 (byt (xm f g)))) :: zz), defers := [] }) (by kernel_rfl) ?_
  refine wpList_plain rfl (fun K hK => ?_)
  refine wp_store_row 22 _ _ rfl n10 (vals .u8 32 (byt (xm f g))) (by kernel_rfl) (by kernel_rfl) 22 _ Bn10 (size_by _) (by rw [vals_size, vals_size]) (vals_one _ _ _) ?_
  have hS' := hS.new gn10 (vals .u8 32 (byt (xm f g)))
  refine hK _ _ ?_
  clear hK K
  have qgn10 : u.heap.size ≤ n10 := gn10
  have qBn10 : Blk (w3.setRow n10 (vals .u8 32 (byt (xm f g)))) n10 (vals .u8 32 (byt (xm f g))) 22 := (Bn10.row (vals .u8 32 (byt (xm f g))))
  clear hS gn10 Bn10
  have gn10 := qgn10
  have Bn10 := qBn10
  have hS := hS'
  clear hS' qgn10 qBn10
  refine wpList_fr (a' := { tmps := List.toArray (z0 :: z1 :: z2 :: z3 :: (.pointer (some ⟨b4, 0, none⟩)) :: (.pointer (some ⟨b5, 0, none⟩)) :: z6 :: z7 :: z8 :: z9 :: (.pointer (some ⟨n10, 0, none⟩)) :: z11 :: z12 :: z13 :: z14 :: z15 :: (.agg (vals .u8 32 f)) :: (.agg (vals .u8 32 g)) :: (.agg (vals .u8 32 (byt (xm f g)))) :: zz), defers := [] }) (by kernel_rfl) ?_
  generalize (w3.setRow n10 (vals .u8 32 (byt (xm f g)))) = w4 at *
  refine wpList_nil ?_
  exact H n10 w4 hS gn10 Bn10
def bi3Op0 : Oper := { dst := some 19, op := Op.load 22 (Operand.tmp 4), type := 22, pos := "law.go:41", after := #[], guard := none }
def bi3Op1 : Oper := { dst := some 11, op := Op.alloc 22, type := 0, pos := "law.go:41", after := #[], guard := none }
def bi3Op2 : Oper := { dst := none, op := Op.store 22 (Operand.tmp 11) (Operand.tmp 19), type := 0, pos := "law.go:41", after := #[{ on := 1, ground := Ground.data }, { on := 0, ground := Ground.data }, { on := 0, ground := Ground.phase }, { on := 1, ground := Ground.phase }], guard := none }
def bi3Ops : Array Oper := #[bi3Op0, bi3Op1, bi3Op2]
set_option maxRecDepth 100000 in
set_option maxHeartbeats 2000000 in
theorem bi3_region (Q : Exit → Act → World → Prop) (hQ : ∀ c a w n v, Q (.panic c) (a.put (some n) v) w → Q (.panic c) a w) (u : World) (z0 z1 z2 z3 z5 z6 z7 z8 z9 z10 z11 z12 z13 z14 z15 z16 z17 z18 z19 : Value) (zz : List Value) (b4 : Nat) (f : Nat → Nat) (hb4 : Blk u b4 (vals .u8 32 f) 22) (nb4 : b4 ∉ ([] : List Nat)) (H : ∀ (n11 : Nat) (w : World), Kp [] u w → u.heap.size ≤ n11 → Blk w n11 (vals .u8 32 f) 22 → Q .normal { tmps := List.toArray (z0 :: z1 :: z2 :: z3 :: (.pointer (some ⟨b4, 0, none⟩)) :: z5 :: z6 :: z7 :: z8 :: z9 :: z10 :: (.pointer (some ⟨n11, 0, none⟩)) :: z12 :: z13 :: z14 :: z15 :: z16 :: z17 :: z18 :: (.agg (vals .u8 32 f)) :: zz), defers := [] } w) :
    (Code.region 3 bi3Ops false).wp Try.prog Q { tmps := List.toArray (z0 :: z1 :: z2 :: z3 :: (.pointer (some ⟨b4, 0, none⟩)) :: z5 :: z6 :: z7 :: z8 :: z9 :: z10 :: z11 :: z12 :: z13 :: z14 :: z15 :: z16 :: z17 :: z18 :: z19 :: zz), defers := [] } u := by
  have _ := hQ
  have _ := u
  have _ := z0
  have _ := z1
  have _ := z2
  have _ := z3
  have _ := z5
  have _ := z6
  have _ := z7
  have _ := z8
  have _ := z9
  have _ := z10
  have _ := z11
  have _ := z12
  have _ := z13
  have _ := z14
  have _ := z15
  have _ := z16
  have _ := z17
  have _ := z18
  have _ := z19
  have _ := zz
  have _ := b4
  have _ := f
  have _ := hb4
  have _ := nb4
  refine wp_region_list (show wpList _ bi3Ops _ [bi3Op0, bi3Op1, bi3Op2] _ _ from ?_)
  have hS : Kp [] u u := Kp.refl _ u
  refine wpList_plain rfl (fun K hK => ?_)
  refine wp_load_row 22 _ rfl b4 (by kernel_rfl) 22 _ (0, 0) _ (hS.keep _ _ _ nb4 hb4) Try.underlying22 rfl (size_by _) ?_
  have hS' := hS
  refine hK _ _ ?_
  clear hK K
  clear hS
  have hS := hS'
  clear hS'
  refine wpList_fr (a' := { tmps := List.toArray (z0 :: z1 :: z2 :: z3 :: (.pointer (some ⟨b4, 0, none⟩)) :: z5 :: z6 :: z7 :: z8 :: z9 :: z10 :: z11 :: z12 :: z13 :: z14 :: z15 :: z16 :: z17 :: z18 :: (.agg (vals .u8 32 f)) :: zz), defers := [] }) (by kernel_rfl) ?_
  refine wpList_plain rfl (fun K hK => ?_)
  refine wp_new _ 22 (alloc_by _ _ _ rfl) ?_
  intro n11 w1 eb Bn11 hbw
  have hS' := hS.call hbw
  refine hK _ _ ?_
  clear hK K
  have qgn11 : u.heap.size ≤ n11 := (by rw [eb]; exact hS.size)
  have qBn11 : Blk w1 n11 (vals .u8 32 (fun _ => 0)) 22 := Bn11
  clear hS
  have gn11 := qgn11
  have Bn11 := qBn11
  have hS := hS'
  clear hS' qgn11 qBn11
  refine wpList_fr (a' := { tmps := List.toArray (z0 :: z1 :: z2 :: z3 :: (.pointer (some ⟨b4, 0, none⟩)) :: z5 :: z6 :: z7 :: z8 :: z9 :: z10 :: (.pointer (some ⟨n11, 0, none⟩)) :: z12 :: z13 :: z14 :: z15 :: z16 :: z17 :: z18 :: (.agg (vals .u8 32 f)) :: zz), defers := [] }) (by kernel_rfl) ?_
  refine wpList_plain rfl (fun K hK => ?_)
  refine wp_store_row 22 _ _ rfl n11 (vals .u8 32 f) (by kernel_rfl) (by kernel_rfl) 22 _ Bn11 (size_by _) (by rw [vals_size, vals_size]) (vals_one _ _ _) ?_
  have hS' := hS.new gn11 (vals .u8 32 f)
  refine hK _ _ ?_
  clear hK K
  have qgn11 : u.heap.size ≤ n11 := gn11
  have qBn11 : Blk (w1.setRow n11 (vals .u8 32 f)) n11 (vals .u8 32 f) 22 := (Bn11.row (vals .u8 32 f))
  clear hS gn11 Bn11
  have gn11 := qgn11
  have Bn11 := qBn11
  have hS := hS'
  clear hS' qgn11 qBn11
  refine wpList_fr (a' := { tmps := List.toArray (z0 :: z1 :: z2 :: z3 :: (.pointer (some ⟨b4, 0, none⟩)) :: z5 :: z6 :: z7 :: z8 :: z9 :: z10 :: (.pointer (some ⟨n11, 0, none⟩)) :: z12 :: z13 :: z14 :: z15 :: z16 :: z17 :: z18 :: (.agg (vals .u8 32 f)) :: zz), defers := [] }) (by kernel_rfl) ?_
  generalize (w1.setRow n11 (vals .u8 32 f)) = w2 at *
  refine wpList_nil ?_
  exact H n11 w2 hS gn11 Bn11
def bi4Op0 : Oper := { dst := some 20, op := Op.indexAddr 22 (Operand.tmp 11) (Operand.const (Value.int IntKind.i64 0)), type := 0, pos := "law.go:42", after := #[], guard := none }
def bi4Op1 : Oper := { dst := some 21, op := Op.load 5 (Operand.tmp 20), type := 5, pos := "law.go:42", after := #[{ on := 0, ground := Ground.data }], guard := none }
def bi4Op2 : Oper := { dst := some 22, op := Op.move (Operand.tmp 2), type := 5, pos := "law.go:42", after := #[], guard := none }
def bi4Op3 : Oper := { dst := some 23, op := Op.binOp BinOp.and 5 (Operand.tmp 22) (Operand.const (Value.int IntKind.u8 7)) 5, type := 5, pos := "law.go:42", after := #[{ on := 2, ground := Ground.data }], guard := none }
def bi4Op4 : Oper := { dst := some 24, op := Op.binOp BinOp.xor 5 (Operand.tmp 21) (Operand.tmp 23) 5, type := 5, pos := "law.go:42", after := #[{ on := 1, ground := Ground.data }, { on := 3, ground := Ground.data }], guard := none }
def bi4Op5 : Oper := { dst := some 25, op := Op.indexAddr 22 (Operand.tmp 11) (Operand.const (Value.int IntKind.i64 0)), type := 0, pos := "law.go:42", after := #[{ on := 0, ground := Ground.phase }, { on := 1, ground := Ground.phase }, { on := 2, ground := Ground.phase }, { on := 3, ground := Ground.phase }, { on := 4, ground := Ground.phase }], guard := none }
def bi4Op6 : Oper := { dst := none, op := Op.store 5 (Operand.tmp 25) (Operand.tmp 24), type := 0, pos := "law.go:42", after := #[{ on := 5, ground := Ground.data }, { on := 4, ground := Ground.data }, { on := 0, ground := Ground.phase }, { on := 1, ground := Ground.phase }, { on := 2, ground := Ground.phase }, { on := 3, ground := Ground.phase }, { on := 4, ground := Ground.phase }], guard := none }
def bi4Ops : Array Oper := #[bi4Op0, bi4Op1, bi4Op2, bi4Op3, bi4Op4, bi4Op5, bi4Op6]
set_option maxRecDepth 100000 in
set_option maxHeartbeats 2000000 in
theorem bi4_region (Q : Exit → Act → World → Prop) (hQ : ∀ c a w n v, Q (.panic c) (a.put (some n) v) w → Q (.panic c) a w) (u : World) (z0 z1 z3 z4 z5 z6 z7 z8 z9 z10 z12 z13 z14 z15 z16 z17 z18 z19 z20 z21 z22 z23 z24 z25 : Value) (zz : List Value) (b11 : Nat) (f : Nat → Nat) (l m v : Nat) (hm : bits .and .u8 ((l : Nat) : Int) 7 = ((m : Nat) : Int)) (hv : bits .xor .u8 ((f 0 : Nat) : Int) ((m : Nat) : Int) = ((v : Nat) : Int)) (hb11 : Blk u b11 (vals .u8 32 f) 22) (H : ∀ (w : World), Kp [b11] u w → Blk w b11 (vals .u8 32 (fun j => if j = 0 then v else f j)) 22 → Q .normal { tmps := List.toArray (z0 :: z1 :: (.int .u8 ((l : Nat) : Int)) :: z3 :: z4 :: z5 :: z6 :: z7 :: z8 :: z9 :: z10 :: (.pointer (some ⟨b11, 0, none⟩)) :: z12 :: z13 :: z14 :: z15 :: z16 :: z17 :: z18 :: z19 :: (.pointer (some ⟨b11, 0, none⟩)) :: (.int .u8 ((f 0 : Nat) : Int)) :: (.int .u8 ((l : Nat) : Int)) :: (.int .u8 ((m : Nat) : Int)) :: (.int .u8 ((v : Nat) : Int)) :: (.pointer (some ⟨b11, 0, none⟩)) :: zz), defers := [] } w) :
    (Code.region 4 bi4Ops false).wp Try.prog Q { tmps := List.toArray (z0 :: z1 :: (.int .u8 ((l : Nat) : Int)) :: z3 :: z4 :: z5 :: z6 :: z7 :: z8 :: z9 :: z10 :: (.pointer (some ⟨b11, 0, none⟩)) :: z12 :: z13 :: z14 :: z15 :: z16 :: z17 :: z18 :: z19 :: z20 :: z21 :: z22 :: z23 :: z24 :: z25 :: zz), defers := [] } u := by
  have _ := hQ
  have _ := u
  have _ := z0
  have _ := z1
  have _ := z3
  have _ := z4
  have _ := z5
  have _ := z6
  have _ := z7
  have _ := z8
  have _ := z9
  have _ := z10
  have _ := z12
  have _ := z13
  have _ := z14
  have _ := z15
  have _ := z16
  have _ := z17
  have _ := z18
  have _ := z19
  have _ := z20
  have _ := z21
  have _ := z22
  have _ := z23
  have _ := z24
  have _ := z25
  have _ := zz
  have _ := b11
  have _ := f
  have _ := l
  have _ := m
  have _ := v
  have _ := hm
  have _ := hv
  have _ := hb11
  refine wp_region_list (show wpList _ bi4Ops _ [bi4Op0, bi4Op1, bi4Op2, bi4Op3, bi4Op4, bi4Op5, bi4Op6] _ _ from ?_)
  have hS : Kp [b11] u u := Kp.refl _ u
  have Bb11 := hb11
  refine wpList_plain rfl (fun K hK => ?_)
  refine wp_val (.pointer (some ⟨b11, 0, none⟩)) (by kernel_rfl) ?_
  have hS' := hS
  refine hK _ _ ?_
  clear hK K
  have qBb11 : Blk u b11 (vals .u8 32 f) 22 := Bb11
  clear hS Bb11
  have Bb11 := qBb11
  have hS := hS'
  clear hS' qBb11
  refine wpList_fr (a' := { tmps := List.toArray (z0 :: z1 :: (.int .u8 ((l : Nat) : Int)) :: z3 :: z4 :: z5 :: z6 :: z7 :: z8 :: z9 :: z10 :: (.pointer (some ⟨b11, 0, none⟩)) :: z12 :: z13 :: z14 :: z15 :: z16 :: z17 :: z18 :: z19 :: (.pointer (some ⟨b11, 0, none⟩)) :: z21 :: z22 :: z23 :: z24 :: z25 :: zz), defers := [] }) (by kernel_rfl) ?_
  refine wpList_plain rfl (fun K hK => ?_)
  refine ld8 _ rfl b11 0 (by kernel_rfl) f Bb11 (by omega) ?_
  have hS' := hS
  refine hK _ _ ?_
  clear hK K
  have qBb11 : Blk u b11 (vals .u8 32 f) 22 := Bb11
  clear hS Bb11
  have Bb11 := qBb11
  have hS := hS'
  clear hS' qBb11
  refine wpList_fr (a' := { tmps := List.toArray (z0 :: z1 :: (.int .u8 ((l : Nat) : Int)) :: z3 :: z4 :: z5 :: z6 :: z7 :: z8 :: z9 :: z10 :: (.pointer (some ⟨b11, 0, none⟩)) :: z12 :: z13 :: z14 :: z15 :: z16 :: z17 :: z18 :: z19 :: (.pointer (some ⟨b11, 0, none⟩)) :: (.int .u8 ((f 0 : Nat) : Int)) :: z22 :: z23 :: z24 :: z25 :: zz), defers := [] }) (by kernel_rfl) ?_
  refine wpList_plain rfl (fun K hK => ?_)
  refine wp_val (.int .u8 ((l : Nat) : Int)) (by kernel_rfl) ?_
  have hS' := hS
  refine hK _ _ ?_
  clear hK K
  have qBb11 : Blk u b11 (vals .u8 32 f) 22 := Bb11
  clear hS Bb11
  have Bb11 := qBb11
  have hS := hS'
  clear hS' qBb11
  refine wpList_fr (a' := { tmps := List.toArray (z0 :: z1 :: (.int .u8 ((l : Nat) : Int)) :: z3 :: z4 :: z5 :: z6 :: z7 :: z8 :: z9 :: z10 :: (.pointer (some ⟨b11, 0, none⟩)) :: z12 :: z13 :: z14 :: z15 :: z16 :: z17 :: z18 :: z19 :: (.pointer (some ⟨b11, 0, none⟩)) :: (.int .u8 ((f 0 : Nat) : Int)) :: (.int .u8 ((l : Nat) : Int)) :: z23 :: z24 :: z25 :: zz), defers := [] }) (by kernel_rfl) ?_
  refine wpList_plain rfl (fun K hK => ?_)
  refine wp_val (.int .u8 ((m : Nat) : Int)) (by rw [← hm]; kernel_rfl) ?_
  have hS' := hS
  refine hK _ _ ?_
  clear hK K
  have qBb11 : Blk u b11 (vals .u8 32 f) 22 := Bb11
  clear hS Bb11
  have Bb11 := qBb11
  have hS := hS'
  clear hS' qBb11
  refine wpList_fr (a' := { tmps := List.toArray (z0 :: z1 :: (.int .u8 ((l : Nat) : Int)) :: z3 :: z4 :: z5 :: z6 :: z7 :: z8 :: z9 :: z10 :: (.pointer (some ⟨b11, 0, none⟩)) :: z12 :: z13 :: z14 :: z15 :: z16 :: z17 :: z18 :: z19 :: (.pointer (some ⟨b11, 0, none⟩)) :: (.int .u8 ((f 0 : Nat) : Int)) :: (.int .u8 ((l : Nat) : Int)) :: (.int .u8 ((m : Nat) : Int)) :: z24 :: z25 :: zz), defers := [] }) (by kernel_rfl) ?_
  refine wpList_plain rfl (fun K hK => ?_)
  refine wp_val (.int .u8 ((v : Nat) : Int)) (by rw [← hv]; kernel_rfl) ?_
  have hS' := hS
  refine hK _ _ ?_
  clear hK K
  have qBb11 : Blk u b11 (vals .u8 32 f) 22 := Bb11
  clear hS Bb11
  have Bb11 := qBb11
  have hS := hS'
  clear hS' qBb11
  refine wpList_fr (a' := { tmps := List.toArray (z0 :: z1 :: (.int .u8 ((l : Nat) : Int)) :: z3 :: z4 :: z5 :: z6 :: z7 :: z8 :: z9 :: z10 :: (.pointer (some ⟨b11, 0, none⟩)) :: z12 :: z13 :: z14 :: z15 :: z16 :: z17 :: z18 :: z19 :: (.pointer (some ⟨b11, 0, none⟩)) :: (.int .u8 ((f 0 : Nat) : Int)) :: (.int .u8 ((l : Nat) : Int)) :: (.int .u8 ((m : Nat) : Int)) :: (.int .u8 ((v : Nat) : Int)) :: z25 :: zz), defers := [] }) (by kernel_rfl) ?_
  refine wpList_plain rfl (fun K hK => ?_)
  refine wp_val (.pointer (some ⟨b11, 0, none⟩)) (by kernel_rfl) ?_
  have hS' := hS
  refine hK _ _ ?_
  clear hK K
  have qBb11 : Blk u b11 (vals .u8 32 f) 22 := Bb11
  clear hS Bb11
  have Bb11 := qBb11
  have hS := hS'
  clear hS' qBb11
  refine wpList_fr (a' := { tmps := List.toArray (z0 :: z1 :: (.int .u8 ((l : Nat) : Int)) :: z3 :: z4 :: z5 :: z6 :: z7 :: z8 :: z9 :: z10 :: (.pointer (some ⟨b11, 0, none⟩)) :: z12 :: z13 :: z14 :: z15 :: z16 :: z17 :: z18 :: z19 :: (.pointer (some ⟨b11, 0, none⟩)) :: (.int .u8 ((f 0 : Nat) : Int)) :: (.int .u8 ((l : Nat) : Int)) :: (.int .u8 ((m : Nat) : Int)) :: (.int .u8 ((v : Nat) : Int)) :: (.pointer (some ⟨b11, 0, none⟩)) :: zz), defers := [] }) (by kernel_rfl) ?_
  refine wpList_plain rfl (fun K hK => ?_)
  refine st8 _ _ rfl b11 0 (by kernel_rfl) f (v) (by kernel_rfl) Bb11 (by omega) ?_
  intro w6 Bq hkw
  have hS' := hS.trans hkw (Z := [b11]) (fun _ h => h) (by simp)
  refine hK _ _ ?_
  clear hK K
  have qBb11 : Blk w6 b11 (vals .u8 32 (fun j => if j = 0 then v else f j)) 22 := Bq
  clear hS Bb11
  have Bb11 := qBb11
  have hS := hS'
  clear hS' qBb11
  refine wpList_fr (a' := { tmps := List.toArray (z0 :: z1 :: (.int .u8 ((l : Nat) : Int)) :: z3 :: z4 :: z5 :: z6 :: z7 :: z8 :: z9 :: z10 :: (.pointer (some ⟨b11, 0, none⟩)) :: z12 :: z13 :: z14 :: z15 :: z16 :: z17 :: z18 :: z19 :: (.pointer (some ⟨b11, 0, none⟩)) :: (.int .u8 ((f 0 : Nat) : Int)) :: (.int .u8 ((l : Nat) : Int)) :: (.int .u8 ((m : Nat) : Int)) :: (.int .u8 ((v : Nat) : Int)) :: (.pointer (some ⟨b11, 0, none⟩)) :: zz), defers := [] }) (by kernel_rfl) ?_
  refine wpList_nil ?_
  exact H  w6 hS Bb11
def bi5Op0 : Oper := { dst := some 26, op := Op.indexAddr 22 (Operand.tmp 11) (Operand.const (Value.int IntKind.i64 31)), type := 0, pos := "law.go:43", after := #[], guard := none }
def bi5Op1 : Oper := { dst := some 27, op := Op.load 5 (Operand.tmp 26), type := 5, pos := "law.go:43", after := #[{ on := 0, ground := Ground.data }], guard := none }
def bi5Op2 : Oper := { dst := some 28, op := Op.move (Operand.tmp 3), type := 5, pos := "law.go:43", after := #[], guard := none }
def bi5Op3 : Oper := { dst := some 29, op := Op.binOp BinOp.and 5 (Operand.tmp 28) (Operand.const (Value.int IntKind.u8 192)) 5, type := 5, pos := "law.go:43", after := #[{ on := 2, ground := Ground.data }], guard := none }
def bi5Op4 : Oper := { dst := some 30, op := Op.binOp BinOp.xor 5 (Operand.tmp 27) (Operand.tmp 29) 5, type := 5, pos := "law.go:43", after := #[{ on := 1, ground := Ground.data }, { on := 3, ground := Ground.data }], guard := none }
def bi5Op5 : Oper := { dst := some 31, op := Op.indexAddr 22 (Operand.tmp 11) (Operand.const (Value.int IntKind.i64 31)), type := 0, pos := "law.go:43", after := #[{ on := 0, ground := Ground.phase }, { on := 1, ground := Ground.phase }, { on := 2, ground := Ground.phase }, { on := 3, ground := Ground.phase }, { on := 4, ground := Ground.phase }], guard := none }
def bi5Op6 : Oper := { dst := none, op := Op.store 5 (Operand.tmp 31) (Operand.tmp 30), type := 0, pos := "law.go:43", after := #[{ on := 5, ground := Ground.data }, { on := 4, ground := Ground.data }, { on := 0, ground := Ground.phase }, { on := 1, ground := Ground.phase }, { on := 2, ground := Ground.phase }, { on := 3, ground := Ground.phase }, { on := 4, ground := Ground.phase }], guard := none }
def bi5Ops : Array Oper := #[bi5Op0, bi5Op1, bi5Op2, bi5Op3, bi5Op4, bi5Op5, bi5Op6]
set_option maxRecDepth 100000 in
set_option maxHeartbeats 2000000 in
theorem bi5_region (Q : Exit → Act → World → Prop) (hQ : ∀ c a w n v, Q (.panic c) (a.put (some n) v) w → Q (.panic c) a w) (u : World) (z0 z1 z2 z4 z5 z6 z7 z8 z9 z10 z12 z13 z14 z15 z16 z17 z18 z19 z20 z21 z22 z23 z24 z25 z26 z27 z28 z29 z30 z31 : Value) (zz : List Value) (b11 : Nat) (f : Nat → Nat) (l m v : Nat) (hm : bits .and .u8 ((l : Nat) : Int) 192 = ((m : Nat) : Int)) (hv : bits .xor .u8 ((f 31 : Nat) : Int) ((m : Nat) : Int) = ((v : Nat) : Int)) (hb11 : Blk u b11 (vals .u8 32 f) 22) (H : ∀ (w : World), Kp [b11] u w → Blk w b11 (vals .u8 32 (fun j => if j = 31 then v else f j)) 22 → Q .normal { tmps := List.toArray (z0 :: z1 :: z2 :: (.int .u8 ((l : Nat) : Int)) :: z4 :: z5 :: z6 :: z7 :: z8 :: z9 :: z10 :: (.pointer (some ⟨b11, 0, none⟩)) :: z12 :: z13 :: z14 :: z15 :: z16 :: z17 :: z18 :: z19 :: z20 :: z21 :: z22 :: z23 :: z24 :: z25 :: (.pointer (some ⟨b11, 31, none⟩)) :: (.int .u8 ((f 31 : Nat) : Int)) :: (.int .u8 ((l : Nat) : Int)) :: (.int .u8 ((m : Nat) : Int)) :: (.int .u8 ((v : Nat) : Int)) :: (.pointer (some ⟨b11, 31, none⟩)) :: zz), defers := [] } w) :
    (Code.region 5 bi5Ops false).wp Try.prog Q { tmps := List.toArray (z0 :: z1 :: z2 :: (.int .u8 ((l : Nat) : Int)) :: z4 :: z5 :: z6 :: z7 :: z8 :: z9 :: z10 :: (.pointer (some ⟨b11, 0, none⟩)) :: z12 :: z13 :: z14 :: z15 :: z16 :: z17 :: z18 :: z19 :: z20 :: z21 :: z22 :: z23 :: z24 :: z25 :: z26 :: z27 :: z28 :: z29 :: z30 :: z31 :: zz), defers := [] } u := by
  have _ := hQ
  have _ := u
  have _ := z0
  have _ := z1
  have _ := z2
  have _ := z4
  have _ := z5
  have _ := z6
  have _ := z7
  have _ := z8
  have _ := z9
  have _ := z10
  have _ := z12
  have _ := z13
  have _ := z14
  have _ := z15
  have _ := z16
  have _ := z17
  have _ := z18
  have _ := z19
  have _ := z20
  have _ := z21
  have _ := z22
  have _ := z23
  have _ := z24
  have _ := z25
  have _ := z26
  have _ := z27
  have _ := z28
  have _ := z29
  have _ := z30
  have _ := z31
  have _ := zz
  have _ := b11
  have _ := f
  have _ := l
  have _ := m
  have _ := v
  have _ := hm
  have _ := hv
  have _ := hb11
  refine wp_region_list (show wpList _ bi5Ops _ [bi5Op0, bi5Op1, bi5Op2, bi5Op3, bi5Op4, bi5Op5, bi5Op6] _ _ from ?_)
  have hS : Kp [b11] u u := Kp.refl _ u
  have Bb11 := hb11
  refine wpList_plain rfl (fun K hK => ?_)
  refine wp_val (.pointer (some ⟨b11, 31, none⟩)) (by kernel_rfl) ?_
  have hS' := hS
  refine hK _ _ ?_
  clear hK K
  have qBb11 : Blk u b11 (vals .u8 32 f) 22 := Bb11
  clear hS Bb11
  have Bb11 := qBb11
  have hS := hS'
  clear hS' qBb11
  refine wpList_fr (a' := { tmps := List.toArray (z0 :: z1 :: z2 :: (.int .u8 ((l : Nat) : Int)) :: z4 :: z5 :: z6 :: z7 :: z8 :: z9 :: z10 :: (.pointer (some ⟨b11, 0, none⟩)) :: z12 :: z13 :: z14 :: z15 :: z16 :: z17 :: z18 :: z19 :: z20 :: z21 :: z22 :: z23 :: z24 :: z25 :: (.pointer (some ⟨b11, 31, none⟩)) :: z27 :: z28 :: z29 :: z30 :: z31 :: zz), defers := [] }) (by kernel_rfl) ?_
  refine wpList_plain rfl (fun K hK => ?_)
  refine ld8 _ rfl b11 31 (by kernel_rfl) f Bb11 (by omega) ?_
  have hS' := hS
  refine hK _ _ ?_
  clear hK K
  have qBb11 : Blk u b11 (vals .u8 32 f) 22 := Bb11
  clear hS Bb11
  have Bb11 := qBb11
  have hS := hS'
  clear hS' qBb11
  refine wpList_fr (a' := { tmps := List.toArray (z0 :: z1 :: z2 :: (.int .u8 ((l : Nat) : Int)) :: z4 :: z5 :: z6 :: z7 :: z8 :: z9 :: z10 :: (.pointer (some ⟨b11, 0, none⟩)) :: z12 :: z13 :: z14 :: z15 :: z16 :: z17 :: z18 :: z19 :: z20 :: z21 :: z22 :: z23 :: z24 :: z25 :: (.pointer (some ⟨b11, 31, none⟩)) :: (.int .u8 ((f 31 : Nat) : Int)) :: z28 :: z29 :: z30 :: z31 :: zz), defers := [] }) (by kernel_rfl) ?_
  refine wpList_plain rfl (fun K hK => ?_)
  refine wp_val (.int .u8 ((l : Nat) : Int)) (by kernel_rfl) ?_
  have hS' := hS
  refine hK _ _ ?_
  clear hK K
  have qBb11 : Blk u b11 (vals .u8 32 f) 22 := Bb11
  clear hS Bb11
  have Bb11 := qBb11
  have hS := hS'
  clear hS' qBb11
  refine wpList_fr (a' := { tmps := List.toArray (z0 :: z1 :: z2 :: (.int .u8 ((l : Nat) : Int)) :: z4 :: z5 :: z6 :: z7 :: z8 :: z9 :: z10 :: (.pointer (some ⟨b11, 0, none⟩)) :: z12 :: z13 :: z14 :: z15 :: z16 :: z17 :: z18 :: z19 :: z20 :: z21 :: z22 :: z23 :: z24 :: z25 :: (.pointer (some ⟨b11, 31, none⟩)) :: (.int .u8 ((f 31 : Nat) : Int)) :: (.int .u8 ((l : Nat) : Int)) :: z29 :: z30 :: z31 :: zz), defers := [] }) (by kernel_rfl) ?_
  refine wpList_plain rfl (fun K hK => ?_)
  refine wp_val (.int .u8 ((m : Nat) : Int)) (by rw [← hm]; kernel_rfl) ?_
  have hS' := hS
  refine hK _ _ ?_
  clear hK K
  have qBb11 : Blk u b11 (vals .u8 32 f) 22 := Bb11
  clear hS Bb11
  have Bb11 := qBb11
  have hS := hS'
  clear hS' qBb11
  refine wpList_fr (a' := { tmps := List.toArray (z0 :: z1 :: z2 :: (.int .u8 ((l : Nat) : Int)) :: z4 :: z5 :: z6 :: z7 :: z8 :: z9 :: z10 :: (.pointer (some ⟨b11, 0, none⟩)) :: z12 :: z13 :: z14 :: z15 :: z16 :: z17 :: z18 :: z19 :: z20 :: z21 :: z22 :: z23 :: z24 :: z25 :: (.pointer (some ⟨b11, 31, none⟩)) :: (.int .u8 ((f 31 : Nat) : Int)) :: (.int .u8 ((l : Nat) : Int)) :: (.int .u8 ((m : Nat) : Int)) :: z30 :: z31 :: zz), defers := [] }) (by kernel_rfl) ?_
  refine wpList_plain rfl (fun K hK => ?_)
  refine wp_val (.int .u8 ((v : Nat) : Int)) (by rw [← hv]; kernel_rfl) ?_
  have hS' := hS
  refine hK _ _ ?_
  clear hK K
  have qBb11 : Blk u b11 (vals .u8 32 f) 22 := Bb11
  clear hS Bb11
  have Bb11 := qBb11
  have hS := hS'
  clear hS' qBb11
  refine wpList_fr (a' := { tmps := List.toArray (z0 :: z1 :: z2 :: (.int .u8 ((l : Nat) : Int)) :: z4 :: z5 :: z6 :: z7 :: z8 :: z9 :: z10 :: (.pointer (some ⟨b11, 0, none⟩)) :: z12 :: z13 :: z14 :: z15 :: z16 :: z17 :: z18 :: z19 :: z20 :: z21 :: z22 :: z23 :: z24 :: z25 :: (.pointer (some ⟨b11, 31, none⟩)) :: (.int .u8 ((f 31 : Nat) : Int)) :: (.int .u8 ((l : Nat) : Int)) :: (.int .u8 ((m : Nat) : Int)) :: (.int .u8 ((v : Nat) : Int)) :: z31 :: zz), defers := [] }) (by kernel_rfl) ?_
  refine wpList_plain rfl (fun K hK => ?_)
  refine wp_val (.pointer (some ⟨b11, 31, none⟩)) (by kernel_rfl) ?_
  have hS' := hS
  refine hK _ _ ?_
  clear hK K
  have qBb11 : Blk u b11 (vals .u8 32 f) 22 := Bb11
  clear hS Bb11
  have Bb11 := qBb11
  have hS := hS'
  clear hS' qBb11
  refine wpList_fr (a' := { tmps := List.toArray (z0 :: z1 :: z2 :: (.int .u8 ((l : Nat) : Int)) :: z4 :: z5 :: z6 :: z7 :: z8 :: z9 :: z10 :: (.pointer (some ⟨b11, 0, none⟩)) :: z12 :: z13 :: z14 :: z15 :: z16 :: z17 :: z18 :: z19 :: z20 :: z21 :: z22 :: z23 :: z24 :: z25 :: (.pointer (some ⟨b11, 31, none⟩)) :: (.int .u8 ((f 31 : Nat) : Int)) :: (.int .u8 ((l : Nat) : Int)) :: (.int .u8 ((m : Nat) : Int)) :: (.int .u8 ((v : Nat) : Int)) :: (.pointer (some ⟨b11, 31, none⟩)) :: zz), defers := [] }) (by kernel_rfl) ?_
  refine wpList_plain rfl (fun K hK => ?_)
  refine st8 _ _ rfl b11 31 (by kernel_rfl) f (v) (by kernel_rfl) Bb11 (by omega) ?_
  intro w6 Bq hkw
  have hS' := hS.trans hkw (Z := [b11]) (fun _ h => h) (by simp)
  refine hK _ _ ?_
  clear hK K
  have qBb11 : Blk w6 b11 (vals .u8 32 (fun j => if j = 31 then v else f j)) 22 := Bq
  clear hS Bb11
  have Bb11 := qBb11
  have hS := hS'
  clear hS' qBb11
  refine wpList_fr (a' := { tmps := List.toArray (z0 :: z1 :: z2 :: (.int .u8 ((l : Nat) : Int)) :: z4 :: z5 :: z6 :: z7 :: z8 :: z9 :: z10 :: (.pointer (some ⟨b11, 0, none⟩)) :: z12 :: z13 :: z14 :: z15 :: z16 :: z17 :: z18 :: z19 :: z20 :: z21 :: z22 :: z23 :: z24 :: z25 :: (.pointer (some ⟨b11, 31, none⟩)) :: (.int .u8 ((f 31 : Nat) : Int)) :: (.int .u8 ((l : Nat) : Int)) :: (.int .u8 ((m : Nat) : Int)) :: (.int .u8 ((v : Nat) : Int)) :: (.pointer (some ⟨b11, 31, none⟩)) :: zz), defers := [] }) (by kernel_rfl) ?_
  refine wpList_nil ?_
  exact H  w6 hS Bb11
def bi6Op0 : Oper := { dst := some 32, op := Op.load 22 (Operand.tmp 5), type := 22, pos := "law.go:44", after := #[], guard := none }
def bi6Op1 : Oper := { dst := some 12, op := Op.alloc 22, type := 0, pos := "law.go:44", after := #[], guard := none }
def bi6Op2 : Oper := { dst := none, op := Op.store 22 (Operand.tmp 12) (Operand.tmp 32), type := 0, pos := "law.go:44", after := #[{ on := 1, ground := Ground.data }, { on := 0, ground := Ground.data }, { on := 0, ground := Ground.phase }, { on := 1, ground := Ground.phase }], guard := none }
def bi6Ops : Array Oper := #[bi6Op0, bi6Op1, bi6Op2]
set_option maxRecDepth 100000 in
set_option maxHeartbeats 2000000 in
theorem bi6_region (Q : Exit → Act → World → Prop) (hQ : ∀ c a w n v, Q (.panic c) (a.put (some n) v) w → Q (.panic c) a w) (u : World) (z0 z1 z2 z3 z4 z6 z7 z8 z9 z10 z11 z12 z13 z14 z15 z16 z17 z18 z19 z20 z21 z22 z23 z24 z25 z26 z27 z28 z29 z30 z31 z32 : Value) (zz : List Value) (b5 : Nat) (f : Nat → Nat) (hb5 : Blk u b5 (vals .u8 32 f) 22) (nb5 : b5 ∉ ([] : List Nat)) (H : ∀ (n12 : Nat) (w : World), Kp [] u w → u.heap.size ≤ n12 → Blk w n12 (vals .u8 32 f) 22 → Q .normal { tmps := List.toArray (z0 :: z1 :: z2 :: z3 :: z4 :: (.pointer (some ⟨b5, 0, none⟩)) :: z6 :: z7 :: z8 :: z9 :: z10 :: z11 :: (.pointer (some ⟨n12, 0, none⟩)) :: z13 :: z14 :: z15 :: z16 :: z17 :: z18 :: z19 :: z20 :: z21 :: z22 :: z23 :: z24 :: z25 :: z26 :: z27 :: z28 :: z29 :: z30 :: z31 :: (.agg (vals .u8 32 f)) :: zz), defers := [] } w) :
    (Code.region 6 bi6Ops false).wp Try.prog Q { tmps := List.toArray (z0 :: z1 :: z2 :: z3 :: z4 :: (.pointer (some ⟨b5, 0, none⟩)) :: z6 :: z7 :: z8 :: z9 :: z10 :: z11 :: z12 :: z13 :: z14 :: z15 :: z16 :: z17 :: z18 :: z19 :: z20 :: z21 :: z22 :: z23 :: z24 :: z25 :: z26 :: z27 :: z28 :: z29 :: z30 :: z31 :: z32 :: zz), defers := [] } u := by
  have _ := hQ
  have _ := u
  have _ := z0
  have _ := z1
  have _ := z2
  have _ := z3
  have _ := z4
  have _ := z6
  have _ := z7
  have _ := z8
  have _ := z9
  have _ := z10
  have _ := z11
  have _ := z12
  have _ := z13
  have _ := z14
  have _ := z15
  have _ := z16
  have _ := z17
  have _ := z18
  have _ := z19
  have _ := z20
  have _ := z21
  have _ := z22
  have _ := z23
  have _ := z24
  have _ := z25
  have _ := z26
  have _ := z27
  have _ := z28
  have _ := z29
  have _ := z30
  have _ := z31
  have _ := z32
  have _ := zz
  have _ := b5
  have _ := f
  have _ := hb5
  have _ := nb5
  refine wp_region_list (show wpList _ bi6Ops _ [bi6Op0, bi6Op1, bi6Op2] _ _ from ?_)
  have hS : Kp [] u u := Kp.refl _ u
  refine wpList_plain rfl (fun K hK => ?_)
  refine wp_load_row 22 _ rfl b5 (by kernel_rfl) 22 _ (0, 0) _ (hS.keep _ _ _ nb5 hb5) Try.underlying22 rfl (size_by _) ?_
  have hS' := hS
  refine hK _ _ ?_
  clear hK K
  clear hS
  have hS := hS'
  clear hS'
  refine wpList_fr (a' := { tmps := List.toArray (z0 :: z1 :: z2 :: z3 :: z4 :: (.pointer (some ⟨b5, 0, none⟩)) :: z6 :: z7 :: z8 :: z9 :: z10 :: z11 :: z12 :: z13 :: z14 :: z15 :: z16 :: z17 :: z18 :: z19 :: z20 :: z21 :: z22 :: z23 :: z24 :: z25 :: z26 :: z27 :: z28 :: z29 :: z30 :: z31 :: (.agg (vals .u8 32 f)) :: zz), defers := [] }) (by kernel_rfl) ?_
  refine wpList_plain rfl (fun K hK => ?_)
  refine wp_new _ 22 (alloc_by _ _ _ rfl) ?_
  intro n12 w1 eb Bn12 hbw
  have hS' := hS.call hbw
  refine hK _ _ ?_
  clear hK K
  have qgn12 : u.heap.size ≤ n12 := (by rw [eb]; exact hS.size)
  have qBn12 : Blk w1 n12 (vals .u8 32 (fun _ => 0)) 22 := Bn12
  clear hS
  have gn12 := qgn12
  have Bn12 := qBn12
  have hS := hS'
  clear hS' qgn12 qBn12
  refine wpList_fr (a' := { tmps := List.toArray (z0 :: z1 :: z2 :: z3 :: z4 :: (.pointer (some ⟨b5, 0, none⟩)) :: z6 :: z7 :: z8 :: z9 :: z10 :: z11 :: (.pointer (some ⟨n12, 0, none⟩)) :: z13 :: z14 :: z15 :: z16 :: z17 :: z18 :: z19 :: z20 :: z21 :: z22 :: z23 :: z24 :: z25 :: z26 :: z27 :: z28 :: z29 :: z30 :: z31 :: (.agg (vals .u8 32 f)) :: zz), defers := [] }) (by kernel_rfl) ?_
  refine wpList_plain rfl (fun K hK => ?_)
  refine wp_store_row 22 _ _ rfl n12 (vals .u8 32 f) (by kernel_rfl) (by kernel_rfl) 22 _ Bn12 (size_by _) (by rw [vals_size, vals_size]) (vals_one _ _ _) ?_
  have hS' := hS.new gn12 (vals .u8 32 f)
  refine hK _ _ ?_
  clear hK K
  have qgn12 : u.heap.size ≤ n12 := gn12
  have qBn12 : Blk (w1.setRow n12 (vals .u8 32 f)) n12 (vals .u8 32 f) 22 := (Bn12.row (vals .u8 32 f))
  clear hS gn12 Bn12
  have gn12 := qgn12
  have Bn12 := qBn12
  have hS := hS'
  clear hS' qgn12 qBn12
  refine wpList_fr (a' := { tmps := List.toArray (z0 :: z1 :: z2 :: z3 :: z4 :: (.pointer (some ⟨b5, 0, none⟩)) :: z6 :: z7 :: z8 :: z9 :: z10 :: z11 :: (.pointer (some ⟨n12, 0, none⟩)) :: z13 :: z14 :: z15 :: z16 :: z17 :: z18 :: z19 :: z20 :: z21 :: z22 :: z23 :: z24 :: z25 :: z26 :: z27 :: z28 :: z29 :: z30 :: z31 :: (.agg (vals .u8 32 f)) :: zz), defers := [] }) (by kernel_rfl) ?_
  generalize (w1.setRow n12 (vals .u8 32 f)) = w2 at *
  refine wpList_nil ?_
  exact H n12 w2 hS gn12 Bn12
def bi7Op0 : Oper := { dst := some 33, op := Op.indexAddr 22 (Operand.tmp 12) (Operand.const (Value.int IntKind.i64 31)), type := 0, pos := "law.go:45", after := #[], guard := none }
def bi7Op1 : Oper := { dst := some 34, op := Op.load 5 (Operand.tmp 33), type := 5, pos := "law.go:45", after := #[{ on := 0, ground := Ground.data }], guard := none }
def bi7Op2 : Oper := { dst := some 35, op := Op.binOp BinOp.xor 5 (Operand.tmp 34) (Operand.const (Value.int IntKind.u8 128)) 5, type := 5, pos := "law.go:45", after := #[{ on := 1, ground := Ground.data }], guard := none }
def bi7Op3 : Oper := { dst := some 36, op := Op.indexAddr 22 (Operand.tmp 12) (Operand.const (Value.int IntKind.i64 31)), type := 0, pos := "law.go:45", after := #[{ on := 0, ground := Ground.phase }, { on := 1, ground := Ground.phase }, { on := 2, ground := Ground.phase }], guard := none }
def bi7Op4 : Oper := { dst := none, op := Op.store 5 (Operand.tmp 36) (Operand.tmp 35), type := 0, pos := "law.go:45", after := #[{ on := 3, ground := Ground.data }, { on := 2, ground := Ground.data }, { on := 0, ground := Ground.phase }, { on := 1, ground := Ground.phase }, { on := 2, ground := Ground.phase }], guard := none }
def bi7Ops : Array Oper := #[bi7Op0, bi7Op1, bi7Op2, bi7Op3, bi7Op4]
set_option maxRecDepth 100000 in
set_option maxHeartbeats 2000000 in
theorem bi7_region (Q : Exit → Act → World → Prop) (hQ : ∀ c a w n v, Q (.panic c) (a.put (some n) v) w → Q (.panic c) a w) (u : World) (z0 z1 z2 z3 z4 z5 z6 z7 z8 z9 z10 z11 z13 z14 z15 z16 z17 z18 z19 z20 z21 z22 z23 z24 z25 z26 z27 z28 z29 z30 z31 z32 z33 z34 z35 z36 : Value) (zz : List Value) (b12 : Nat) (f : Nat → Nat) (v : Nat) (hv : bits .xor .u8 ((f 31 : Nat) : Int) 128 = ((v : Nat) : Int)) (hb12 : Blk u b12 (vals .u8 32 f) 22) (H : ∀ (w : World), Kp [b12] u w → Blk w b12 (vals .u8 32 (fun j => if j = 31 then v else f j)) 22 → Q .normal { tmps := List.toArray (z0 :: z1 :: z2 :: z3 :: z4 :: z5 :: z6 :: z7 :: z8 :: z9 :: z10 :: z11 :: (.pointer (some ⟨b12, 0, none⟩)) :: z13 :: z14 :: z15 :: z16 :: z17 :: z18 :: z19 :: z20 :: z21 :: z22 :: z23 :: z24 :: z25 :: z26 :: z27 :: z28 :: z29 :: z30 :: z31 :: z32 :: (.pointer (some ⟨b12, 31, none⟩)) :: (.int .u8 ((f 31 : Nat) : Int)) :: (.int .u8 ((v : Nat) : Int)) :: (.pointer (some ⟨b12, 31, none⟩)) :: zz), defers := [] } w) :
    (Code.region 7 bi7Ops false).wp Try.prog Q { tmps := List.toArray (z0 :: z1 :: z2 :: z3 :: z4 :: z5 :: z6 :: z7 :: z8 :: z9 :: z10 :: z11 :: (.pointer (some ⟨b12, 0, none⟩)) :: z13 :: z14 :: z15 :: z16 :: z17 :: z18 :: z19 :: z20 :: z21 :: z22 :: z23 :: z24 :: z25 :: z26 :: z27 :: z28 :: z29 :: z30 :: z31 :: z32 :: z33 :: z34 :: z35 :: z36 :: zz), defers := [] } u := by
  have _ := hQ
  have _ := u
  have _ := z0
  have _ := z1
  have _ := z2
  have _ := z3
  have _ := z4
  have _ := z5
  have _ := z6
  have _ := z7
  have _ := z8
  have _ := z9
  have _ := z10
  have _ := z11
  have _ := z13
  have _ := z14
  have _ := z15
  have _ := z16
  have _ := z17
  have _ := z18
  have _ := z19
  have _ := z20
  have _ := z21
  have _ := z22
  have _ := z23
  have _ := z24
  have _ := z25
  have _ := z26
  have _ := z27
  have _ := z28
  have _ := z29
  have _ := z30
  have _ := z31
  have _ := z32
  have _ := z33
  have _ := z34
  have _ := z35
  have _ := z36
  have _ := zz
  have _ := b12
  have _ := f
  have _ := v
  have _ := hv
  have _ := hb12
  refine wp_region_list (show wpList _ bi7Ops _ [bi7Op0, bi7Op1, bi7Op2, bi7Op3, bi7Op4] _ _ from ?_)
  have hS : Kp [b12] u u := Kp.refl _ u
  have Bb12 := hb12
  refine wpList_plain rfl (fun K hK => ?_)
  refine wp_val (.pointer (some ⟨b12, 31, none⟩)) (by kernel_rfl) ?_
  have hS' := hS
  refine hK _ _ ?_
  clear hK K
  have qBb12 : Blk u b12 (vals .u8 32 f) 22 := Bb12
  clear hS Bb12
  have Bb12 := qBb12
  have hS := hS'
  clear hS' qBb12
  refine wpList_fr (a' := { tmps := List.toArray (z0 :: z1 :: z2 :: z3 :: z4 :: z5 :: z6 :: z7 :: z8 :: z9 :: z10 :: z11 :: (.pointer (some ⟨b12, 0, none⟩)) :: z13 :: z14 :: z15 :: z16 :: z17 :: z18 :: z19 :: z20 :: z21 :: z22 :: z23 :: z24 :: z25 :: z26 :: z27 :: z28 :: z29 :: z30 :: z31 :: z32 :: (.pointer (some ⟨b12, 31, none⟩)) :: z34 :: z35 :: z36 :: zz), defers := [] }) (by kernel_rfl) ?_
  refine wpList_plain rfl (fun K hK => ?_)
  refine ld8 _ rfl b12 31 (by kernel_rfl) f Bb12 (by omega) ?_
  have hS' := hS
  refine hK _ _ ?_
  clear hK K
  have qBb12 : Blk u b12 (vals .u8 32 f) 22 := Bb12
  clear hS Bb12
  have Bb12 := qBb12
  have hS := hS'
  clear hS' qBb12
  refine wpList_fr (a' := { tmps := List.toArray (z0 :: z1 :: z2 :: z3 :: z4 :: z5 :: z6 :: z7 :: z8 :: z9 :: z10 :: z11 :: (.pointer (some ⟨b12, 0, none⟩)) :: z13 :: z14 :: z15 :: z16 :: z17 :: z18 :: z19 :: z20 :: z21 :: z22 :: z23 :: z24 :: z25 :: z26 :: z27 :: z28 :: z29 :: z30 :: z31 :: z32 :: (.pointer (some ⟨b12, 31, none⟩)) :: (.int .u8 ((f 31 : Nat) : Int)) :: z35 :: z36 :: zz), defers := [] }) (by kernel_rfl) ?_
  refine wpList_plain rfl (fun K hK => ?_)
  refine wp_val (.int .u8 ((v : Nat) : Int)) (by rw [← hv]; kernel_rfl) ?_
  have hS' := hS
  refine hK _ _ ?_
  clear hK K
  have qBb12 : Blk u b12 (vals .u8 32 f) 22 := Bb12
  clear hS Bb12
  have Bb12 := qBb12
  have hS := hS'
  clear hS' qBb12
  refine wpList_fr (a' := { tmps := List.toArray (z0 :: z1 :: z2 :: z3 :: z4 :: z5 :: z6 :: z7 :: z8 :: z9 :: z10 :: z11 :: (.pointer (some ⟨b12, 0, none⟩)) :: z13 :: z14 :: z15 :: z16 :: z17 :: z18 :: z19 :: z20 :: z21 :: z22 :: z23 :: z24 :: z25 :: z26 :: z27 :: z28 :: z29 :: z30 :: z31 :: z32 :: (.pointer (some ⟨b12, 31, none⟩)) :: (.int .u8 ((f 31 : Nat) : Int)) :: (.int .u8 ((v : Nat) : Int)) :: z36 :: zz), defers := [] }) (by kernel_rfl) ?_
  refine wpList_plain rfl (fun K hK => ?_)
  refine wp_val (.pointer (some ⟨b12, 31, none⟩)) (by kernel_rfl) ?_
  have hS' := hS
  refine hK _ _ ?_
  clear hK K
  have qBb12 : Blk u b12 (vals .u8 32 f) 22 := Bb12
  clear hS Bb12
  have Bb12 := qBb12
  have hS := hS'
  clear hS' qBb12
  refine wpList_fr (a' := { tmps := List.toArray (z0 :: z1 :: z2 :: z3 :: z4 :: z5 :: z6 :: z7 :: z8 :: z9 :: z10 :: z11 :: (.pointer (some ⟨b12, 0, none⟩)) :: z13 :: z14 :: z15 :: z16 :: z17 :: z18 :: z19 :: z20 :: z21 :: z22 :: z23 :: z24 :: z25 :: z26 :: z27 :: z28 :: z29 :: z30 :: z31 :: z32 :: (.pointer (some ⟨b12, 31, none⟩)) :: (.int .u8 ((f 31 : Nat) : Int)) :: (.int .u8 ((v : Nat) : Int)) :: (.pointer (some ⟨b12, 31, none⟩)) :: zz), defers := [] }) (by kernel_rfl) ?_
  refine wpList_plain rfl (fun K hK => ?_)
  refine st8 _ _ rfl b12 31 (by kernel_rfl) f (v) (by kernel_rfl) Bb12 (by omega) ?_
  intro w4 Bq hkw
  have hS' := hS.trans hkw (Z := [b12]) (fun _ h => h) (by simp)
  refine hK _ _ ?_
  clear hK K
  have qBb12 : Blk w4 b12 (vals .u8 32 (fun j => if j = 31 then v else f j)) 22 := Bq
  clear hS Bb12
  have Bb12 := qBb12
  have hS := hS'
  clear hS' qBb12
  refine wpList_fr (a' := { tmps := List.toArray (z0 :: z1 :: z2 :: z3 :: z4 :: z5 :: z6 :: z7 :: z8 :: z9 :: z10 :: z11 :: (.pointer (some ⟨b12, 0, none⟩)) :: z13 :: z14 :: z15 :: z16 :: z17 :: z18 :: z19 :: z20 :: z21 :: z22 :: z23 :: z24 :: z25 :: z26 :: z27 :: z28 :: z29 :: z30 :: z31 :: z32 :: (.pointer (some ⟨b12, 31, none⟩)) :: (.int .u8 ((f 31 : Nat) : Int)) :: (.int .u8 ((v : Nat) : Int)) :: (.pointer (some ⟨b12, 31, none⟩)) :: zz), defers := [] }) (by kernel_rfl) ?_
  refine wpList_nil ?_
  exact H  w4 hS Bb12
def bi8Op0 : Oper := { dst := some 37, op := Op.load 22 (Operand.tmp 5), type := 22, pos := "law.go:46", after := #[], guard := none }
def bi8Op1 : Oper := { dst := some 13, op := Op.alloc 22, type := 0, pos := "law.go:46", after := #[], guard := none }
def bi8Op2 : Oper := { dst := none, op := Op.store 22 (Operand.tmp 13) (Operand.tmp 37), type := 0, pos := "law.go:46", after := #[{ on := 1, ground := Ground.data }, { on := 0, ground := Ground.data }, { on := 0, ground := Ground.phase }, { on := 1, ground := Ground.phase }], guard := none }
def bi8Ops : Array Oper := #[bi8Op0, bi8Op1, bi8Op2]
set_option maxRecDepth 100000 in
set_option maxHeartbeats 2000000 in
theorem bi8_region (Q : Exit → Act → World → Prop) (hQ : ∀ c a w n v, Q (.panic c) (a.put (some n) v) w → Q (.panic c) a w) (u : World) (z0 z1 z2 z3 z4 z6 z7 z8 z9 z10 z11 z12 z13 z14 z15 z16 z17 z18 z19 z20 z21 z22 z23 z24 z25 z26 z27 z28 z29 z30 z31 z32 z33 z34 z35 z36 z37 : Value) (zz : List Value) (b5 : Nat) (f : Nat → Nat) (hb5 : Blk u b5 (vals .u8 32 f) 22) (nb5 : b5 ∉ ([] : List Nat)) (H : ∀ (n13 : Nat) (w : World), Kp [] u w → u.heap.size ≤ n13 → Blk w n13 (vals .u8 32 f) 22 → Q .normal { tmps := List.toArray (z0 :: z1 :: z2 :: z3 :: z4 :: (.pointer (some ⟨b5, 0, none⟩)) :: z6 :: z7 :: z8 :: z9 :: z10 :: z11 :: z12 :: (.pointer (some ⟨n13, 0, none⟩)) :: z14 :: z15 :: z16 :: z17 :: z18 :: z19 :: z20 :: z21 :: z22 :: z23 :: z24 :: z25 :: z26 :: z27 :: z28 :: z29 :: z30 :: z31 :: z32 :: z33 :: z34 :: z35 :: z36 :: (.agg (vals .u8 32 f)) :: zz), defers := [] } w) :
    (Code.region 8 bi8Ops false).wp Try.prog Q { tmps := List.toArray (z0 :: z1 :: z2 :: z3 :: z4 :: (.pointer (some ⟨b5, 0, none⟩)) :: z6 :: z7 :: z8 :: z9 :: z10 :: z11 :: z12 :: z13 :: z14 :: z15 :: z16 :: z17 :: z18 :: z19 :: z20 :: z21 :: z22 :: z23 :: z24 :: z25 :: z26 :: z27 :: z28 :: z29 :: z30 :: z31 :: z32 :: z33 :: z34 :: z35 :: z36 :: z37 :: zz), defers := [] } u := by
  have _ := hQ
  have _ := u
  have _ := z0
  have _ := z1
  have _ := z2
  have _ := z3
  have _ := z4
  have _ := z6
  have _ := z7
  have _ := z8
  have _ := z9
  have _ := z10
  have _ := z11
  have _ := z12
  have _ := z13
  have _ := z14
  have _ := z15
  have _ := z16
  have _ := z17
  have _ := z18
  have _ := z19
  have _ := z20
  have _ := z21
  have _ := z22
  have _ := z23
  have _ := z24
  have _ := z25
  have _ := z26
  have _ := z27
  have _ := z28
  have _ := z29
  have _ := z30
  have _ := z31
  have _ := z32
  have _ := z33
  have _ := z34
  have _ := z35
  have _ := z36
  have _ := z37
  have _ := zz
  have _ := b5
  have _ := f
  have _ := hb5
  have _ := nb5
  refine wp_region_list (show wpList _ bi8Ops _ [bi8Op0, bi8Op1, bi8Op2] _ _ from ?_)
  have hS : Kp [] u u := Kp.refl _ u
  refine wpList_plain rfl (fun K hK => ?_)
  refine wp_load_row 22 _ rfl b5 (by kernel_rfl) 22 _ (0, 0) _ (hS.keep _ _ _ nb5 hb5) Try.underlying22 rfl (size_by _) ?_
  have hS' := hS
  refine hK _ _ ?_
  clear hK K
  clear hS
  have hS := hS'
  clear hS'
  refine wpList_fr (a' := { tmps := List.toArray (z0 :: z1 :: z2 :: z3 :: z4 :: (.pointer (some ⟨b5, 0, none⟩)) :: z6 :: z7 :: z8 :: z9 :: z10 :: z11 :: z12 :: z13 :: z14 :: z15 :: z16 :: z17 :: z18 :: z19 :: z20 :: z21 :: z22 :: z23 :: z24 :: z25 :: z26 :: z27 :: z28 :: z29 :: z30 :: z31 :: z32 :: z33 :: z34 :: z35 :: z36 :: (.agg (vals .u8 32 f)) :: zz), defers := [] }) (by kernel_rfl) ?_
  refine wpList_plain rfl (fun K hK => ?_)
  refine wp_new _ 22 (alloc_by _ _ _ rfl) ?_
  intro n13 w1 eb Bn13 hbw
  have hS' := hS.call hbw
  refine hK _ _ ?_
  clear hK K
  have qgn13 : u.heap.size ≤ n13 := (by rw [eb]; exact hS.size)
  have qBn13 : Blk w1 n13 (vals .u8 32 (fun _ => 0)) 22 := Bn13
  clear hS
  have gn13 := qgn13
  have Bn13 := qBn13
  have hS := hS'
  clear hS' qgn13 qBn13
  refine wpList_fr (a' := { tmps := List.toArray (z0 :: z1 :: z2 :: z3 :: z4 :: (.pointer (some ⟨b5, 0, none⟩)) :: z6 :: z7 :: z8 :: z9 :: z10 :: z11 :: z12 :: (.pointer (some ⟨n13, 0, none⟩)) :: z14 :: z15 :: z16 :: z17 :: z18 :: z19 :: z20 :: z21 :: z22 :: z23 :: z24 :: z25 :: z26 :: z27 :: z28 :: z29 :: z30 :: z31 :: z32 :: z33 :: z34 :: z35 :: z36 :: (.agg (vals .u8 32 f)) :: zz), defers := [] }) (by kernel_rfl) ?_
  refine wpList_plain rfl (fun K hK => ?_)
  refine wp_store_row 22 _ _ rfl n13 (vals .u8 32 f) (by kernel_rfl) (by kernel_rfl) 22 _ Bn13 (size_by _) (by rw [vals_size, vals_size]) (vals_one _ _ _) ?_
  have hS' := hS.new gn13 (vals .u8 32 f)
  refine hK _ _ ?_
  clear hK K
  have qgn13 : u.heap.size ≤ n13 := gn13
  have qBn13 : Blk (w1.setRow n13 (vals .u8 32 f)) n13 (vals .u8 32 f) 22 := (Bn13.row (vals .u8 32 f))
  clear hS gn13 Bn13
  have gn13 := qgn13
  have Bn13 := qBn13
  have hS := hS'
  clear hS' qgn13 qBn13
  refine wpList_fr (a' := { tmps := List.toArray (z0 :: z1 :: z2 :: z3 :: z4 :: (.pointer (some ⟨b5, 0, none⟩)) :: z6 :: z7 :: z8 :: z9 :: z10 :: z11 :: z12 :: (.pointer (some ⟨n13, 0, none⟩)) :: z14 :: z15 :: z16 :: z17 :: z18 :: z19 :: z20 :: z21 :: z22 :: z23 :: z24 :: z25 :: z26 :: z27 :: z28 :: z29 :: z30 :: z31 :: z32 :: z33 :: z34 :: z35 :: z36 :: (.agg (vals .u8 32 f)) :: zz), defers := [] }) (by kernel_rfl) ?_
  generalize (w1.setRow n13 (vals .u8 32 f)) = w2 at *
  refine wpList_nil ?_
  exact H n13 w2 hS gn13 Bn13
def bi9Op0 : Oper := { dst := some 38, op := Op.indexAddr 22 (Operand.tmp 13) (Operand.const (Value.int IntKind.i64 31)), type := 0, pos := "law.go:47", after := #[], guard := none }
def bi9Op1 : Oper := { dst := some 39, op := Op.load 5 (Operand.tmp 38), type := 5, pos := "law.go:47", after := #[{ on := 0, ground := Ground.data }], guard := none }
def bi9Op2 : Oper := { dst := some 40, op := Op.binOp BinOp.andNot 5 (Operand.tmp 39) (Operand.const (Value.int IntKind.u8 128)) 5, type := 5, pos := "law.go:47", after := #[{ on := 1, ground := Ground.data }], guard := none }
def bi9Op3 : Oper := { dst := some 41, op := Op.indexAddr 22 (Operand.tmp 13) (Operand.const (Value.int IntKind.i64 31)), type := 0, pos := "law.go:47", after := #[{ on := 0, ground := Ground.phase }, { on := 1, ground := Ground.phase }, { on := 2, ground := Ground.phase }], guard := none }
def bi9Op4 : Oper := { dst := none, op := Op.store 5 (Operand.tmp 41) (Operand.tmp 40), type := 0, pos := "law.go:47", after := #[{ on := 3, ground := Ground.data }, { on := 2, ground := Ground.data }, { on := 0, ground := Ground.phase }, { on := 1, ground := Ground.phase }, { on := 2, ground := Ground.phase }], guard := none }
def bi9Ops : Array Oper := #[bi9Op0, bi9Op1, bi9Op2, bi9Op3, bi9Op4]
set_option maxRecDepth 100000 in
set_option maxHeartbeats 2000000 in
theorem bi9_region (Q : Exit → Act → World → Prop) (hQ : ∀ c a w n v, Q (.panic c) (a.put (some n) v) w → Q (.panic c) a w) (u : World) (z0 z1 z2 z3 z4 z5 z6 z7 z8 z9 z10 z11 z12 z14 z15 z16 z17 z18 z19 z20 z21 z22 z23 z24 z25 z26 z27 z28 z29 z30 z31 z32 z33 z34 z35 z36 z37 z38 z39 z40 z41 : Value) (zz : List Value) (b13 : Nat) (f : Nat → Nat) (v : Nat) (hv : bits .andNot .u8 ((f 31 : Nat) : Int) 128 = ((v : Nat) : Int)) (hb13 : Blk u b13 (vals .u8 32 f) 22) (H : ∀ (w : World), Kp [b13] u w → Blk w b13 (vals .u8 32 (fun j => if j = 31 then v else f j)) 22 → Q .normal { tmps := List.toArray (z0 :: z1 :: z2 :: z3 :: z4 :: z5 :: z6 :: z7 :: z8 :: z9 :: z10 :: z11 :: z12 :: (.pointer (some ⟨b13, 0, none⟩)) :: z14 :: z15 :: z16 :: z17 :: z18 :: z19 :: z20 :: z21 :: z22 :: z23 :: z24 :: z25 :: z26 :: z27 :: z28 :: z29 :: z30 :: z31 :: z32 :: z33 :: z34 :: z35 :: z36 :: z37 :: (.pointer (some ⟨b13, 31, none⟩)) :: (.int .u8 ((f 31 : Nat) : Int)) :: (.int .u8 ((v : Nat) : Int)) :: (.pointer (some ⟨b13, 31, none⟩)) :: zz), defers := [] } w) :
    (Code.region 9 bi9Ops false).wp Try.prog Q { tmps := List.toArray (z0 :: z1 :: z2 :: z3 :: z4 :: z5 :: z6 :: z7 :: z8 :: z9 :: z10 :: z11 :: z12 :: (.pointer (some ⟨b13, 0, none⟩)) :: z14 :: z15 :: z16 :: z17 :: z18 :: z19 :: z20 :: z21 :: z22 :: z23 :: z24 :: z25 :: z26 :: z27 :: z28 :: z29 :: z30 :: z31 :: z32 :: z33 :: z34 :: z35 :: z36 :: z37 :: z38 :: z39 :: z40 :: z41 :: zz), defers := [] } u := by
  have _ := hQ
  have _ := u
  have _ := z0
  have _ := z1
  have _ := z2
  have _ := z3
  have _ := z4
  have _ := z5
  have _ := z6
  have _ := z7
  have _ := z8
  have _ := z9
  have _ := z10
  have _ := z11
  have _ := z12
  have _ := z14
  have _ := z15
  have _ := z16
  have _ := z17
  have _ := z18
  have _ := z19
  have _ := z20
  have _ := z21
  have _ := z22
  have _ := z23
  have _ := z24
  have _ := z25
  have _ := z26
  have _ := z27
  have _ := z28
  have _ := z29
  have _ := z30
  have _ := z31
  have _ := z32
  have _ := z33
  have _ := z34
  have _ := z35
  have _ := z36
  have _ := z37
  have _ := z38
  have _ := z39
  have _ := z40
  have _ := z41
  have _ := zz
  have _ := b13
  have _ := f
  have _ := v
  have _ := hv
  have _ := hb13
  refine wp_region_list (show wpList _ bi9Ops _ [bi9Op0, bi9Op1, bi9Op2, bi9Op3, bi9Op4] _ _ from ?_)
  have hS : Kp [b13] u u := Kp.refl _ u
  have Bb13 := hb13
  refine wpList_plain rfl (fun K hK => ?_)
  refine wp_val (.pointer (some ⟨b13, 31, none⟩)) (by kernel_rfl) ?_
  have hS' := hS
  refine hK _ _ ?_
  clear hK K
  have qBb13 : Blk u b13 (vals .u8 32 f) 22 := Bb13
  clear hS Bb13
  have Bb13 := qBb13
  have hS := hS'
  clear hS' qBb13
  refine wpList_fr (a' := { tmps := List.toArray (z0 :: z1 :: z2 :: z3 :: z4 :: z5 :: z6 :: z7 :: z8 :: z9 :: z10 :: z11 :: z12 :: (.pointer (some ⟨b13, 0, none⟩)) :: z14 :: z15 :: z16 :: z17 :: z18 :: z19 :: z20 :: z21 :: z22 :: z23 :: z24 :: z25 :: z26 :: z27 :: z28 :: z29 :: z30 :: z31 :: z32 :: z33 :: z34 :: z35 :: z36 :: z37 :: (.pointer (some ⟨b13, 31, none⟩)) :: z39 :: z40 :: z41 :: zz), defers := [] }) (by kernel_rfl) ?_
  refine wpList_plain rfl (fun K hK => ?_)
  refine ld8 _ rfl b13 31 (by kernel_rfl) f Bb13 (by omega) ?_
  have hS' := hS
  refine hK _ _ ?_
  clear hK K
  have qBb13 : Blk u b13 (vals .u8 32 f) 22 := Bb13
  clear hS Bb13
  have Bb13 := qBb13
  have hS := hS'
  clear hS' qBb13
  refine wpList_fr (a' := { tmps := List.toArray (z0 :: z1 :: z2 :: z3 :: z4 :: z5 :: z6 :: z7 :: z8 :: z9 :: z10 :: z11 :: z12 :: (.pointer (some ⟨b13, 0, none⟩)) :: z14 :: z15 :: z16 :: z17 :: z18 :: z19 :: z20 :: z21 :: z22 :: z23 :: z24 :: z25 :: z26 :: z27 :: z28 :: z29 :: z30 :: z31 :: z32 :: z33 :: z34 :: z35 :: z36 :: z37 :: (.pointer (some ⟨b13, 31, none⟩)) :: (.int .u8 ((f 31 : Nat) : Int)) :: z40 :: z41 :: zz), defers := [] }) (by kernel_rfl) ?_
  refine wpList_plain rfl (fun K hK => ?_)
  refine wp_val (.int .u8 ((v : Nat) : Int)) (by rw [← hv]; kernel_rfl) ?_
  have hS' := hS
  refine hK _ _ ?_
  clear hK K
  have qBb13 : Blk u b13 (vals .u8 32 f) 22 := Bb13
  clear hS Bb13
  have Bb13 := qBb13
  have hS := hS'
  clear hS' qBb13
  refine wpList_fr (a' := { tmps := List.toArray (z0 :: z1 :: z2 :: z3 :: z4 :: z5 :: z6 :: z7 :: z8 :: z9 :: z10 :: z11 :: z12 :: (.pointer (some ⟨b13, 0, none⟩)) :: z14 :: z15 :: z16 :: z17 :: z18 :: z19 :: z20 :: z21 :: z22 :: z23 :: z24 :: z25 :: z26 :: z27 :: z28 :: z29 :: z30 :: z31 :: z32 :: z33 :: z34 :: z35 :: z36 :: z37 :: (.pointer (some ⟨b13, 31, none⟩)) :: (.int .u8 ((f 31 : Nat) : Int)) :: (.int .u8 ((v : Nat) : Int)) :: z41 :: zz), defers := [] }) (by kernel_rfl) ?_
  refine wpList_plain rfl (fun K hK => ?_)
  refine wp_val (.pointer (some ⟨b13, 31, none⟩)) (by kernel_rfl) ?_
  have hS' := hS
  refine hK _ _ ?_
  clear hK K
  have qBb13 : Blk u b13 (vals .u8 32 f) 22 := Bb13
  clear hS Bb13
  have Bb13 := qBb13
  have hS := hS'
  clear hS' qBb13
  refine wpList_fr (a' := { tmps := List.toArray (z0 :: z1 :: z2 :: z3 :: z4 :: z5 :: z6 :: z7 :: z8 :: z9 :: z10 :: z11 :: z12 :: (.pointer (some ⟨b13, 0, none⟩)) :: z14 :: z15 :: z16 :: z17 :: z18 :: z19 :: z20 :: z21 :: z22 :: z23 :: z24 :: z25 :: z26 :: z27 :: z28 :: z29 :: z30 :: z31 :: z32 :: z33 :: z34 :: z35 :: z36 :: z37 :: (.pointer (some ⟨b13, 31, none⟩)) :: (.int .u8 ((f 31 : Nat) : Int)) :: (.int .u8 ((v : Nat) : Int)) :: (.pointer (some ⟨b13, 31, none⟩)) :: zz), defers := [] }) (by kernel_rfl) ?_
  refine wpList_plain rfl (fun K hK => ?_)
  refine st8 _ _ rfl b13 31 (by kernel_rfl) f (v) (by kernel_rfl) Bb13 (by omega) ?_
  intro w4 Bq hkw
  have hS' := hS.trans hkw (Z := [b13]) (fun _ h => h) (by simp)
  refine hK _ _ ?_
  clear hK K
  have qBb13 : Blk w4 b13 (vals .u8 32 (fun j => if j = 31 then v else f j)) 22 := Bq
  clear hS Bb13
  have Bb13 := qBb13
  have hS := hS'
  clear hS' qBb13
  refine wpList_fr (a' := { tmps := List.toArray (z0 :: z1 :: z2 :: z3 :: z4 :: z5 :: z6 :: z7 :: z8 :: z9 :: z10 :: z11 :: z12 :: (.pointer (some ⟨b13, 0, none⟩)) :: z14 :: z15 :: z16 :: z17 :: z18 :: z19 :: z20 :: z21 :: z22 :: z23 :: z24 :: z25 :: z26 :: z27 :: z28 :: z29 :: z30 :: z31 :: z32 :: z33 :: z34 :: z35 :: z36 :: z37 :: (.pointer (some ⟨b13, 31, none⟩)) :: (.int .u8 ((f 31 : Nat) : Int)) :: (.int .u8 ((v : Nat) : Int)) :: (.pointer (some ⟨b13, 31, none⟩)) :: zz), defers := [] }) (by kernel_rfl) ?_
  refine wpList_nil ?_
  exact H  w4 hS Bb13
def bi10Op0 : Oper := { dst := some 42, op := Op.load 22 (Operand.tmp 13), type := 22, pos := "law.go:48", after := #[], guard := none }
def bi10Op1 : Oper := { dst := some 43, op := Op.call { callee := Callee.value (Operand.func 13), args := #[Operand.tmp 42], argTypes := #[22] }, type := 32, pos := "law.go:48", after := #[{ on := 0, ground := Ground.data }], guard := none }
def bi10Op2 : Oper := { dst := some 44, op := Op.call { callee := Callee.value (Operand.func 14), args := #[Operand.tmp 43], argTypes := #[32] }, type := 22, pos := "law.go:48", after := #[{ on := 1, ground := Ground.data }, { on := 1, ground := Ground.chain }], guard := none }
def bi10Op3 : Oper := { dst := some 14, op := Op.alloc 22, type := 0, pos := "law.go:48", after := #[], guard := none }
def bi10Op4 : Oper := { dst := none, op := Op.store 22 (Operand.tmp 14) (Operand.tmp 44), type := 0, pos := "law.go:48", after := #[{ on := 3, ground := Ground.data }, { on := 2, ground := Ground.data }, { on := 2, ground := Ground.chain }, { on := 0, ground := Ground.phase }, { on := 1, ground := Ground.phase }, { on := 2, ground := Ground.phase }, { on := 3, ground := Ground.phase }], guard := none }
def bi10Ops : Array Oper := #[bi10Op0, bi10Op1, bi10Op2, bi10Op3, bi10Op4]
set_option maxRecDepth 100000 in
set_option maxHeartbeats 2000000 in
theorem bi10_region (Q : Exit → Act → World → Prop) (hQ : ∀ c a w n v, Q (.panic c) (a.put (some n) v) w → Q (.panic c) a w) (u : World) (z0 z1 z2 z3 z4 z5 z6 z7 z8 z9 z10 z11 z12 z14 z15 z16 z17 z18 z19 z20 z21 z22 z23 z24 z25 z26 z27 z28 z29 z30 z31 z32 z33 z34 z35 z36 z37 z38 z39 z40 z41 z42 z43 z44 : Value) (zz : List Value) (b13 : Nat) (q : Nat → Nat) (hq : ∀ i, q i < 256) (hb13 : Blk u b13 (vals .u8 32 q) 22) (nb13 : b13 ∉ ([] : List Nat)) (H : ∀ (n14 : Nat) (w : World), Kp [] u w → u.heap.size ≤ n14 → Blk w n14 (vals .u8 32 (byt (nb q 32 % pP))) 22 → Q .normal { tmps := List.toArray (z0 :: z1 :: z2 :: z3 :: z4 :: z5 :: z6 :: z7 :: z8 :: z9 :: z10 :: z11 :: z12 :: (.pointer (some ⟨b13, 0, none⟩)) :: (.pointer (some ⟨n14, 0, none⟩)) :: z15 :: z16 :: z17 :: z18 :: z19 :: z20 :: z21 :: z22 :: z23 :: z24 :: z25 :: z26 :: z27 :: z28 :: z29 :: z30 :: z31 :: z32 :: z33 :: z34 :: z35 :: z36 :: z37 :: z38 :: z39 :: z40 :: z41 :: (.agg (vals .u8 32 q)) :: (.agg (arr 4 (limb (nb q 32 % pP)))) :: (.agg (vals .u8 32 (byt (nb q 32 % pP)))) :: zz), defers := [] } w) :
    (Code.region 10 bi10Ops false).wp Try.prog Q { tmps := List.toArray (z0 :: z1 :: z2 :: z3 :: z4 :: z5 :: z6 :: z7 :: z8 :: z9 :: z10 :: z11 :: z12 :: (.pointer (some ⟨b13, 0, none⟩)) :: z14 :: z15 :: z16 :: z17 :: z18 :: z19 :: z20 :: z21 :: z22 :: z23 :: z24 :: z25 :: z26 :: z27 :: z28 :: z29 :: z30 :: z31 :: z32 :: z33 :: z34 :: z35 :: z36 :: z37 :: z38 :: z39 :: z40 :: z41 :: z42 :: z43 :: z44 :: zz), defers := [] } u := by
  have _ := hQ
  have _ := u
  have _ := z0
  have _ := z1
  have _ := z2
  have _ := z3
  have _ := z4
  have _ := z5
  have _ := z6
  have _ := z7
  have _ := z8
  have _ := z9
  have _ := z10
  have _ := z11
  have _ := z12
  have _ := z14
  have _ := z15
  have _ := z16
  have _ := z17
  have _ := z18
  have _ := z19
  have _ := z20
  have _ := z21
  have _ := z22
  have _ := z23
  have _ := z24
  have _ := z25
  have _ := z26
  have _ := z27
  have _ := z28
  have _ := z29
  have _ := z30
  have _ := z31
  have _ := z32
  have _ := z33
  have _ := z34
  have _ := z35
  have _ := z36
  have _ := z37
  have _ := z38
  have _ := z39
  have _ := z40
  have _ := z41
  have _ := z42
  have _ := z43
  have _ := z44
  have _ := zz
  have _ := b13
  have _ := q
  have _ := hq
  have _ := hb13
  have _ := nb13
  refine wp_region_list (show wpList _ bi10Ops _ [bi10Op0, bi10Op1, bi10Op2, bi10Op3, bi10Op4] _ _ from ?_)
  have hS : Kp [] u u := Kp.refl _ u
  refine wpList_plain rfl (fun K hK => ?_)
  refine wp_load_row 22 _ rfl b13 (by kernel_rfl) 22 _ (0, 0) _ (hS.keep _ _ _ nb13 hb13) Try.underlying22 rfl (size_by _) ?_
  have hS' := hS
  refine hK _ _ ?_
  clear hK K
  clear hS
  have hS := hS'
  clear hS'
  refine wpList_fr (a' := { tmps := List.toArray (z0 :: z1 :: z2 :: z3 :: z4 :: z5 :: z6 :: z7 :: z8 :: z9 :: z10 :: z11 :: z12 :: (.pointer (some ⟨b13, 0, none⟩)) :: z14 :: z15 :: z16 :: z17 :: z18 :: z19 :: z20 :: z21 :: z22 :: z23 :: z24 :: z25 :: z26 :: z27 :: z28 :: z29 :: z30 :: z31 :: z32 :: z33 :: z34 :: z35 :: z36 :: z37 :: z38 :: z39 :: z40 :: z41 :: (.agg (vals .u8 32 q)) :: z43 :: z44 :: zz), defers := [] }) (by kernel_rfl) ?_
  refine wpList_plain rfl (fun K hK => ?_)
  refine wp_call_val 13 #[.agg (vals .u8 32 q)] (by kernel_rfl) (.agg (arr 4 (limb (nb q 32 % pP)))) (load_c q _ hq) ?_
  intro w1 hbw
  have hS' := hS.call hbw
  refine hK _ _ ?_
  clear hK K
  clear hS
  have hS := hS'
  clear hS'
  refine wpList_fr (a' := { tmps := List.toArray (z0 :: z1 :: z2 :: z3 :: z4 :: z5 :: z6 :: z7 :: z8 :: z9 :: z10 :: z11 :: z12 :: (.pointer (some ⟨b13, 0, none⟩)) :: z14 :: z15 :: z16 :: z17 :: z18 :: z19 :: z20 :: z21 :: z22 :: z23 :: z24 :: z25 :: z26 :: z27 :: z28 :: z29 :: z30 :: z31 :: z32 :: z33 :: z34 :: z35 :: z36 :: z37 :: z38 :: z39 :: z40 :: z41 :: (.agg (vals .u8 32 q)) :: (.agg (arr 4 (limb (nb q 32 % pP)))) :: z44 :: zz), defers := [] }) (by kernel_rfl) ?_
  refine wpList_plain rfl (fun K hK => ?_)
  refine wp_call_val 14 #[.agg (arr 4 (limb (nb q 32 % pP)))] (by kernel_rfl) (.agg (vals .u8 32 (byt (nb q 32 % pP)))) (bytes_c (nb q 32 % pP) _) ?_
  intro w2 hbw
  have hS' := hS.call hbw
  refine hK _ _ ?_
  clear hK K
  clear hS
  have hS := hS'
  clear hS'
  refine wpList_fr (a' := { tmps := List.toArray (z0 :: z1 :: z2 :: z3 :: z4 :: z5 :: z6 :: z7 :: z8 :: z9 :: z10 :: z11 :: z12 :: (.pointer (some ⟨b13, 0, none⟩)) :: z14 :: z15 :: z16 :: z17 :: z18 :: z19 :: z20 :: z21 :: z22 :: z23 :: z24 :: z25 :: z26 :: z27 :: z28 :: z29 :: z30 :: z31 :: z32 :: z33 :: z34 :: z35 :: z36 :: z37 :: z38 :: z39 :: z40 :: z41 :: (.agg (vals .u8 32 q)) :: (.agg (arr 4 (limb (nb q 32 % pP)))) :: (.agg (vals .u8 32 (byt (nb q 32 % pP)))) :: zz), defers := [] }) (by kernel_rfl) ?_
  refine wpList_plain rfl (fun K hK => ?_)
  refine wp_new _ 22 (alloc_by _ _ _ rfl) ?_
  intro n14 w3 eb Bn14 hbw
  have hS' := hS.call hbw
  refine hK _ _ ?_
  clear hK K
  have qgn14 : u.heap.size ≤ n14 := (by rw [eb]; exact hS.size)
  have qBn14 : Blk w3 n14 (vals .u8 32 (fun _ => 0)) 22 := Bn14
  clear hS
  have gn14 := qgn14
  have Bn14 := qBn14
  have hS := hS'
  clear hS' qgn14 qBn14
  refine wpList_fr (a' := { tmps := List.toArray (z0 :: z1 :: z2 :: z3 :: z4 :: z5 :: z6 :: z7 :: z8 :: z9 :: z10 :: z11 :: z12 :: (.pointer (some ⟨b13, 0, none⟩)) :: (.pointer (some ⟨n14, 0, none⟩)) :: z15 :: z16 :: z17 :: z18 :: z19 :: z20 :: z21 :: z22 :: z23 :: z24 :: z25 :: z26 :: z27 :: z28 :: z29 :: z30 :: z31 :: z32 :: z33 :: z34 :: z35 :: z36 :: z37 :: z38 :: z39 :: z40 :: z41 :: (.agg (vals .u8 32 q)) :: (.agg (arr 4 (limb (nb q 32 % pP)))) :: (.agg (vals .u8 32 (byt (nb q 32 % pP)))) :: zz), defers := [] }) (by kernel_rfl) ?_
  refine wpList_plain rfl (fun K hK => ?_)
  refine wp_store_row 22 _ _ rfl n14 (vals .u8 32 (byt (nb q 32 % pP))) (by kernel_rfl) (by kernel_rfl) 22 _ Bn14 (size_by _) (by rw [vals_size, vals_size]) (vals_one _ _ _) ?_
  have hS' := hS.new gn14 (vals .u8 32 (byt (nb q 32 % pP)))
  refine hK _ _ ?_
  clear hK K
  have qgn14 : u.heap.size ≤ n14 := gn14
  have qBn14 : Blk (w3.setRow n14 (vals .u8 32 (byt (nb q 32 % pP)))) n14 (vals .u8 32 (byt (nb q 32 % pP))) 22 := (Bn14.row (vals .u8 32 (byt (nb q 32 % pP))))
  clear hS gn14 Bn14
  have gn14 := qgn14
  have Bn14 := qBn14
  have hS := hS'
  clear hS' qgn14 qBn14
  refine wpList_fr (a' := { tmps := List.toArray (z0 :: z1 :: z2 :: z3 :: z4 :: z5 :: z6 :: z7 :: z8 :: z9 :: z10 :: z11 :: z12 :: (.pointer (some ⟨b13, 0, none⟩)) :: (.pointer (some ⟨n14, 0, none⟩)) :: z15 :: z16 :: z17 :: z18 :: z19 :: z20 :: z21 :: z22 :: z23 :: z24 :: z25 :: z26 :: z27 :: z28 :: z29 :: z30 :: z31 :: z32 :: z33 :: z34 :: z35 :: z36 :: z37 :: z38 :: z39 :: z40 :: z41 :: (.agg (vals .u8 32 q)) :: (.agg (arr 4 (limb (nb q 32 % pP)))) :: (.agg (vals .u8 32 (byt (nb q 32 % pP)))) :: zz), defers := [] }) (by kernel_rfl) ?_
  generalize (w3.setRow n14 (vals .u8 32 (byt (nb q 32 % pP)))) = w4 at *
  refine wpList_nil ?_
  exact H n14 w4 hS gn14 Bn14
def bi11Op0 : Oper := { dst := some 45, op := Op.move (Operand.tmp 9), type := 4, pos := "law.go:49", after := #[], guard := none }
def bi11Op1 : Oper := { dst := some 46, op := Op.move (Operand.tmp 45), type := 4, pos := "law.go:49", after := #[{ on := 0, ground := Ground.data }], guard := none }
def bi11Op2 : Oper := { dst := some 47, op := Op.load 22 (Operand.tmp 11), type := 22, pos := "law.go:49", after := #[{ on := 1, ground := Ground.guard }], guard := some (1, true) }
def bi11Op3 : Oper := { dst := some 48, op := Op.load 22 (Operand.tmp 5), type := 22, pos := "law.go:49", after := #[{ on := 1, ground := Ground.guard }], guard := some (1, true) }
def bi11Op4 : Oper := { dst := some 49, op := Op.call { callee := Callee.value (Operand.func 9), args := #[Operand.tmp 47, Operand.tmp 48], argTypes := #[22, 22] }, type := 22, pos := "law.go:49", after := #[{ on := 2, ground := Ground.data }, { on := 3, ground := Ground.data }, { on := 1, ground := Ground.chain }, { on := 1, ground := Ground.guard }], guard := some (1, true) }
def bi11Op5 : Oper := { dst := some 50, op := Op.load 22 (Operand.tmp 10), type := 22, pos := "law.go:49", after := #[{ on := 1, ground := Ground.guard }], guard := some (1, true) }
def bi11Op6 : Oper := { dst := some 51, op := Op.binOp BinOp.eql 22 (Operand.tmp 49) (Operand.tmp 50) 22, type := 4, pos := "law.go:49", after := #[{ on := 4, ground := Ground.data }, { on := 5, ground := Ground.data }, { on := 1, ground := Ground.guard }], guard := some (1, true) }
def bi11Op7 : Oper := { dst := some 52, op := Op.pick (Operand.tmp 46) (Operand.tmp 51) (Operand.const (Value.bool false)), type := 4, pos := "law.go:49", after := #[{ on := 1, ground := Ground.data }, { on := 6, ground := Ground.data }], guard := none }
def bi11Op8 : Oper := { dst := some 53, op := Op.move (Operand.tmp 52), type := 4, pos := "law.go:49", after := #[{ on := 7, ground := Ground.data }, { on := 4, ground := Ground.chain }], guard := none }
def bi11Op9 : Oper := { dst := some 54, op := Op.load 22 (Operand.tmp 4), type := 22, pos := "law.go:49", after := #[{ on := 8, ground := Ground.guard }], guard := some (8, true) }
def bi11Op10 : Oper := { dst := some 55, op := Op.load 22 (Operand.tmp 12), type := 22, pos := "law.go:49", after := #[{ on := 8, ground := Ground.guard }], guard := some (8, true) }
def bi11Op11 : Oper := { dst := some 56, op := Op.call { callee := Callee.value (Operand.func 9), args := #[Operand.tmp 54, Operand.tmp 55], argTypes := #[22, 22] }, type := 22, pos := "law.go:49", after := #[{ on := 9, ground := Ground.data }, { on := 10, ground := Ground.data }, { on := 8, ground := Ground.chain }, { on := 8, ground := Ground.guard }], guard := some (8, true) }
def bi11Op12 : Oper := { dst := some 57, op := Op.load 22 (Operand.tmp 10), type := 22, pos := "law.go:49", after := #[{ on := 8, ground := Ground.guard }], guard := some (8, true) }
def bi11Op13 : Oper := { dst := some 58, op := Op.binOp BinOp.eql 22 (Operand.tmp 56) (Operand.tmp 57) 22, type := 4, pos := "law.go:49", after := #[{ on := 11, ground := Ground.data }, { on := 12, ground := Ground.data }, { on := 8, ground := Ground.guard }], guard := some (8, true) }
def bi11Op14 : Oper := { dst := some 59, op := Op.pick (Operand.tmp 53) (Operand.tmp 58) (Operand.const (Value.bool false)), type := 4, pos := "law.go:49", after := #[{ on := 8, ground := Ground.data }, { on := 13, ground := Ground.data }], guard := none }
def bi11Op15 : Oper := { dst := some 60, op := Op.move (Operand.tmp 59), type := 4, pos := "law.go:49", after := #[{ on := 14, ground := Ground.data }, { on := 11, ground := Ground.chain }], guard := none }
def bi11Op16 : Oper := { dst := some 61, op := Op.load 22 (Operand.tmp 4), type := 22, pos := "law.go:49", after := #[{ on := 15, ground := Ground.guard }], guard := some (15, true) }
def bi11Op17 : Oper := { dst := some 62, op := Op.load 22 (Operand.tmp 14), type := 22, pos := "law.go:49", after := #[{ on := 15, ground := Ground.guard }], guard := some (15, true) }
def bi11Op18 : Oper := { dst := some 63, op := Op.call { callee := Callee.value (Operand.func 9), args := #[Operand.tmp 61, Operand.tmp 62], argTypes := #[22, 22] }, type := 22, pos := "law.go:49", after := #[{ on := 16, ground := Ground.data }, { on := 17, ground := Ground.data }, { on := 15, ground := Ground.chain }, { on := 15, ground := Ground.guard }], guard := some (15, true) }
def bi11Op19 : Oper := { dst := some 64, op := Op.load 22 (Operand.tmp 10), type := 22, pos := "law.go:49", after := #[{ on := 15, ground := Ground.guard }], guard := some (15, true) }
def bi11Op20 : Oper := { dst := some 65, op := Op.binOp BinOp.eql 22 (Operand.tmp 63) (Operand.tmp 64) 22, type := 4, pos := "law.go:49", after := #[{ on := 18, ground := Ground.data }, { on := 19, ground := Ground.data }, { on := 15, ground := Ground.guard }], guard := some (15, true) }
def bi11Op21 : Oper := { dst := some 66, op := Op.pick (Operand.tmp 60) (Operand.tmp 65) (Operand.const (Value.bool false)), type := 4, pos := "law.go:49", after := #[{ on := 15, ground := Ground.data }, { on := 20, ground := Ground.data }], guard := none }
def bi11Op22 : Oper := { dst := some 8, op := Op.assign (Operand.tmp 66), type := 4, pos := "law.go:49", after := #[{ on := 21, ground := Ground.data }, { on := 18, ground := Ground.chain }, { on := 0, ground := Ground.phase }, { on := 1, ground := Ground.phase }, { on := 2, ground := Ground.phase }, { on := 3, ground := Ground.phase }, { on := 4, ground := Ground.phase }, { on := 5, ground := Ground.phase }, { on := 6, ground := Ground.phase }, { on := 7, ground := Ground.phase }, { on := 8, ground := Ground.phase }, { on := 9, ground := Ground.phase }, { on := 10, ground := Ground.phase }, { on := 11, ground := Ground.phase }, { on := 12, ground := Ground.phase }, { on := 13, ground := Ground.phase }, { on := 14, ground := Ground.phase }, { on := 15, ground := Ground.phase }, { on := 16, ground := Ground.phase }, { on := 17, ground := Ground.phase }, { on := 18, ground := Ground.phase }, { on := 19, ground := Ground.phase }, { on := 20, ground := Ground.phase }, { on := 21, ground := Ground.phase }], guard := none }
def bi11Ops : Array Oper := #[bi11Op0, bi11Op1, bi11Op2, bi11Op3, bi11Op4, bi11Op5, bi11Op6, bi11Op7, bi11Op8, bi11Op9, bi11Op10, bi11Op11, bi11Op12, bi11Op13, bi11Op14, bi11Op15, bi11Op16, bi11Op17, bi11Op18, bi11Op19, bi11Op20, bi11Op21, bi11Op22]
structure bi11C (Q : Exit → Act → World → Prop) (u : World) (z0 z1 z2 z3 z6 z7 z8 z13 z15 z16 z17 z18 z19 z20 z21 z22 z23 z24 z25 z26 z27 z28 z29 z30 z31 z32 z33 z34 z35 z36 z37 z38 z39 z40 z41 z42 z43 z44 z45 z46 z47 z48 z49 z50 z51 z52 z53 z54 z55 z56 z57 z58 z59 z60 z61 z62 z63 z64 z65 z66 : Value) (b4 b5 b10 b11 b12 b14 : Nat) (f g m s p l : Nat → Nat) : Prop where
  hQ : ∀ c a w n v, Q (.panic c) (a.put (some n) v) w → Q (.panic c) a w
  hf : ∀ i, f i < 256
  hg : ∀ i, g i < 256
  hs : ∀ i, s i < 256
  hp : ∀ i, p i < 256
  hl : ∀ i, l i < 256
  e1 : sameB (byt (xm s g)) m = true
  e2 : sameB (byt (xm f p)) m = true
  e3 : sameB (byt (xm f l)) m = true
  hb4 : Blk u b4 (vals .u8 32 f) 22
  nb4 : b4 ∉ ([] : List Nat)
  hb5 : Blk u b5 (vals .u8 32 g) 22
  nb5 : b5 ∉ ([] : List Nat)
  hb10 : Blk u b10 (vals .u8 32 m) 22
  nb10 : b10 ∉ ([] : List Nat)
  hb11 : Blk u b11 (vals .u8 32 s) 22
  nb11 : b11 ∉ ([] : List Nat)
  hb12 : Blk u b12 (vals .u8 32 p) 22
  nb12 : b12 ∉ ([] : List Nat)
  hb14 : Blk u b14 (vals .u8 32 l) 22
  nb14 : b14 ∉ ([] : List Nat)
  H : ∀ (w : World), Kp [] u w → Q .normal { tmps := List.toArray (z0 :: z1 :: z2 :: z3 :: (.pointer (some ⟨b4, 0, none⟩)) :: (.pointer (some ⟨b5, 0, none⟩)) :: z6 :: z7 :: (.bool true) :: (.bool true) :: (.pointer (some ⟨b10, 0, none⟩)) :: (.pointer (some ⟨b11, 0, none⟩)) :: (.pointer (some ⟨b12, 0, none⟩)) :: z13 :: (.pointer (some ⟨b14, 0, none⟩)) :: z15 :: z16 :: z17 :: z18 :: z19 :: z20 :: z21 :: z22 :: z23 :: z24 :: z25 :: z26 :: z27 :: z28 :: z29 :: z30 :: z31 :: z32 :: z33 :: z34 :: z35 :: z36 :: z37 :: z38 :: z39 :: z40 :: z41 :: z42 :: z43 :: z44 :: (.bool true) :: (.bool true) :: (.agg (vals .u8 32 s)) :: (.agg (vals .u8 32 g)) :: (.agg (vals .u8 32 (byt (xm s g)))) :: (.agg (vals .u8 32 m)) :: (.bool true) :: (.bool true) :: (.bool true) :: (.agg (vals .u8 32 f)) :: (.agg (vals .u8 32 p)) :: (.agg (vals .u8 32 (byt (xm f p)))) :: (.agg (vals .u8 32 m)) :: (.bool true) :: (.bool true) :: (.bool true) :: (.agg (vals .u8 32 f)) :: (.agg (vals .u8 32 l)) :: (.agg (vals .u8 32 (byt (xm f l)))) :: (.agg (vals .u8 32 m)) :: (.bool true) :: (.bool true) :: []), defers := [] } w
section
variable {Q : Exit → Act → World → Prop} {u : World} {z0 z1 z2 z3 z6 z7 z8 z13 z15 z16 z17 z18 z19 z20 z21 z22 z23 z24 z25 z26 z27 z28 z29 z30 z31 z32 z33 z34 z35 z36 z37 z38 z39 z40 z41 z42 z43 z44 z45 z46 z47 z48 z49 z50 z51 z52 z53 z54 z55 z56 z57 z58 z59 z60 z61 z62 z63 z64 z65 z66 : Value} {b4 b5 b10 b11 b12 b14 : Nat} {f g m s p l : Nat → Nat}
set_option maxRecDepth 100000 in
set_option maxHeartbeats 2000000 in
theorem bi11_0 (C : bi11C Q u z0 z1 z2 z3 z6 z7 z8 z13 z15 z16 z17 z18 z19 z20 z21 z22 z23 z24 z25 z26 z27 z28 z29 z30 z31 z32 z33 z34 z35 z36 z37 z38 z39 z40 z41 z42 z43 z44 z45 z46 z47 z48 z49 z50 z51 z52 z53 z54 z55 z56 z57 z58 z59 z60 z61 z62 z63 z64 z65 z66 b4 b5 b10 b11 b12 b14 f g m s p l) (w : World) (hS : Kp [] u w) :
    wpAnyH Try.prog .any bi11Ops Q (Kp [] u) 0 (List.toArray (true :: true :: true :: true :: true :: true :: true :: true :: true :: true :: true :: true :: true :: true :: true :: true :: true :: true :: true :: true :: true :: true :: true :: [])) { tmps := List.toArray (z0 :: z1 :: z2 :: z3 :: (.pointer (some ⟨b4, 0, none⟩)) :: (.pointer (some ⟨b5, 0, none⟩)) :: z6 :: z7 :: (.bool true) :: (.bool true) :: (.pointer (some ⟨b10, 0, none⟩)) :: (.pointer (some ⟨b11, 0, none⟩)) :: (.pointer (some ⟨b12, 0, none⟩)) :: z13 :: (.pointer (some ⟨b14, 0, none⟩)) :: z15 :: z16 :: z17 :: z18 :: z19 :: z20 :: z21 :: z22 :: z23 :: z24 :: z25 :: z26 :: z27 :: z28 :: z29 :: z30 :: z31 :: z32 :: z33 :: z34 :: z35 :: z36 :: z37 :: z38 :: z39 :: z40 :: z41 :: z42 :: z43 :: z44 :: (.bool true) :: (.bool true) :: (.agg (vals .u8 32 s)) :: (.agg (vals .u8 32 g)) :: (.agg (vals .u8 32 (byt (xm s g)))) :: (.agg (vals .u8 32 m)) :: (.bool true) :: (.bool true) :: (.bool true) :: (.agg (vals .u8 32 f)) :: (.agg (vals .u8 32 p)) :: (.agg (vals .u8 32 (byt (xm f p)))) :: (.agg (vals .u8 32 m)) :: (.bool true) :: (.bool true) :: (.bool true) :: (.agg (vals .u8 32 f)) :: (.agg (vals .u8 32 l)) :: (.agg (vals .u8 32 (byt (xm f l)))) :: (.agg (vals .u8 32 m)) :: (.bool true) :: (.bool true) :: []), defers := [] } w := by
  exact wpAnyH_done (by kernel_rfl) (C.H  w hS ) _
set_option maxRecDepth 100000 in
set_option maxHeartbeats 2000000 in
theorem bi11_1 (C : bi11C Q u z0 z1 z2 z3 z6 z7 z8 z13 z15 z16 z17 z18 z19 z20 z21 z22 z23 z24 z25 z26 z27 z28 z29 z30 z31 z32 z33 z34 z35 z36 z37 z38 z39 z40 z41 z42 z43 z44 z45 z46 z47 z48 z49 z50 z51 z52 z53 z54 z55 z56 z57 z58 z59 z60 z61 z62 z63 z64 z65 z66 b4 b5 b10 b11 b12 b14 f g m s p l) (w : World) (hS : Kp [] u w) :
    wpAnyH Try.prog .any bi11Ops Q (Kp [] u) 4 (List.toArray (true :: true :: true :: true :: true :: true :: true :: true :: true :: true :: true :: true :: true :: true :: true :: true :: true :: true :: false :: true :: false :: false :: false :: [])) { tmps := List.toArray (z0 :: z1 :: z2 :: z3 :: (.pointer (some ⟨b4, 0, none⟩)) :: (.pointer (some ⟨b5, 0, none⟩)) :: z6 :: z7 :: z8 :: (.bool true) :: (.pointer (some ⟨b10, 0, none⟩)) :: (.pointer (some ⟨b11, 0, none⟩)) :: (.pointer (some ⟨b12, 0, none⟩)) :: z13 :: (.pointer (some ⟨b14, 0, none⟩)) :: z15 :: z16 :: z17 :: z18 :: z19 :: z20 :: z21 :: z22 :: z23 :: z24 :: z25 :: z26 :: z27 :: z28 :: z29 :: z30 :: z31 :: z32 :: z33 :: z34 :: z35 :: z36 :: z37 :: z38 :: z39 :: z40 :: z41 :: z42 :: z43 :: z44 :: (.bool true) :: (.bool true) :: (.agg (vals .u8 32 s)) :: (.agg (vals .u8 32 g)) :: (.agg (vals .u8 32 (byt (xm s g)))) :: (.agg (vals .u8 32 m)) :: (.bool true) :: (.bool true) :: (.bool true) :: (.agg (vals .u8 32 f)) :: (.agg (vals .u8 32 p)) :: (.agg (vals .u8 32 (byt (xm f p)))) :: (.agg (vals .u8 32 m)) :: (.bool true) :: (.bool true) :: (.bool true) :: (.agg (vals .u8 32 f)) :: (.agg (vals .u8 32 l)) :: z63 :: (.agg (vals .u8 32 m)) :: z65 :: z66 :: []), defers := [] } w := by
  obtain ⟨hQ, hf, hg, hs, hp, hl, e1, e2, e3, hb4, nb4, hb5, nb5, hb10, nb10, hb11, nb11, hb12, nb12, hb14, nb14, _⟩ := id C
  refine wpAnyH_ready (rs := [18]) (by kernel_rfl) (by simp) ?_
  refine AllReadyH.cons (o := bi11Op18) rfl (fun K hK => ?_) AllReadyH.nil
  rw [if_pos (by rfl)]
  refine wp_call_val 9 #[.agg (vals .u8 32 f), .agg (vals .u8 32 l)] (by kernel_rfl) (.agg (vals .u8 32 (byt (xm f l)))) (mul_c9 f l _ hf hl) ?_
  intro w' hbw
  have hS' := hS.call hbw
  refine hK.out _ _ hS' (fun _ => ?_)
  refine wpAnyH_take (i := 20) (oi := bi11Op20) (v := .bool true) rfl (by kernel_rfl) (by kernel_rfl) (by kernel_rfl) (fun _ _ _ => hQ _ _ _ _ _) (yeq (by kernel_rfl) _ _ (byt (xm f l)) m rfl (by kernel_rfl) (by kernel_rfl) e3) hS' ?_
  refine wpAnyH_take (i := 21) (oi := bi11Op21) (v := .bool true) rfl (by kernel_rfl) (by kernel_rfl) (by kernel_rfl) (fun _ _ _ => hQ _ _ _ _ _) (Or.inl ⟨by kernel_rfl, fun _ _ => by kernel_rfl⟩) hS' ?_
  refine wpAnyH_take (i := 22) (oi := bi11Op22) (v := .bool true) rfl (by kernel_rfl) (by kernel_rfl) (by kernel_rfl) (fun _ _ _ => hQ _ _ _ _ _) (Or.inl ⟨by kernel_rfl, fun _ _ => by kernel_rfl⟩) hS' ?_
  exact wpAnyH_at (by kernel_rfl) (by kernel_rfl) (bi11_0 C w' hS' )
set_option maxRecDepth 100000 in
set_option maxHeartbeats 2000000 in
theorem bi11_2 (C : bi11C Q u z0 z1 z2 z3 z6 z7 z8 z13 z15 z16 z17 z18 z19 z20 z21 z22 z23 z24 z25 z26 z27 z28 z29 z30 z31 z32 z33 z34 z35 z36 z37 z38 z39 z40 z41 z42 z43 z44 z45 z46 z47 z48 z49 z50 z51 z52 z53 z54 z55 z56 z57 z58 z59 z60 z61 z62 z63 z64 z65 z66 b4 b5 b10 b11 b12 b14 f g m s p l) (w : World) (hS : Kp [] u w) :
    wpAnyH Try.prog .any bi11Ops Q (Kp [] u) 11 (List.toArray (true :: true :: true :: true :: true :: true :: true :: true :: true :: true :: true :: false :: true :: false :: false :: false :: false :: false :: false :: false :: false :: false :: false :: [])) { tmps := List.toArray (z0 :: z1 :: z2 :: z3 :: (.pointer (some ⟨b4, 0, none⟩)) :: (.pointer (some ⟨b5, 0, none⟩)) :: z6 :: z7 :: z8 :: (.bool true) :: (.pointer (some ⟨b10, 0, none⟩)) :: (.pointer (some ⟨b11, 0, none⟩)) :: (.pointer (some ⟨b12, 0, none⟩)) :: z13 :: (.pointer (some ⟨b14, 0, none⟩)) :: z15 :: z16 :: z17 :: z18 :: z19 :: z20 :: z21 :: z22 :: z23 :: z24 :: z25 :: z26 :: z27 :: z28 :: z29 :: z30 :: z31 :: z32 :: z33 :: z34 :: z35 :: z36 :: z37 :: z38 :: z39 :: z40 :: z41 :: z42 :: z43 :: z44 :: (.bool true) :: (.bool true) :: (.agg (vals .u8 32 s)) :: (.agg (vals .u8 32 g)) :: (.agg (vals .u8 32 (byt (xm s g)))) :: (.agg (vals .u8 32 m)) :: (.bool true) :: (.bool true) :: (.bool true) :: (.agg (vals .u8 32 f)) :: (.agg (vals .u8 32 p)) :: z56 :: (.agg (vals .u8 32 m)) :: z58 :: z59 :: z60 :: z61 :: z62 :: z63 :: z64 :: z65 :: z66 :: []), defers := [] } w := by
  obtain ⟨hQ, hf, hg, hs, hp, hl, e1, e2, e3, hb4, nb4, hb5, nb5, hb10, nb10, hb11, nb11, hb12, nb12, hb14, nb14, _⟩ := id C
  refine wpAnyH_ready (rs := [11]) (by kernel_rfl) (by simp) ?_
  refine AllReadyH.cons (o := bi11Op11) rfl (fun K hK => ?_) AllReadyH.nil
  rw [if_pos (by rfl)]
  refine wp_call_val 9 #[.agg (vals .u8 32 f), .agg (vals .u8 32 p)] (by kernel_rfl) (.agg (vals .u8 32 (byt (xm f p)))) (mul_c9 f p _ hf hp) ?_
  intro w' hbw
  have hS' := hS.call hbw
  refine hK.out _ _ hS' (fun _ => ?_)
  refine wpAnyH_take (i := 13) (oi := bi11Op13) (v := .bool true) rfl (by kernel_rfl) (by kernel_rfl) (by kernel_rfl) (fun _ _ _ => hQ _ _ _ _ _) (yeq (by kernel_rfl) _ _ (byt (xm f p)) m rfl (by kernel_rfl) (by kernel_rfl) e2) hS' ?_
  refine wpAnyH_take (i := 14) (oi := bi11Op14) (v := .bool true) rfl (by kernel_rfl) (by kernel_rfl) (by kernel_rfl) (fun _ _ _ => hQ _ _ _ _ _) (Or.inl ⟨by kernel_rfl, fun _ _ => by kernel_rfl⟩) hS' ?_
  refine wpAnyH_at (listed' := (List.toArray (true :: true :: true :: true :: true :: true :: true :: true :: true :: true :: true :: true :: true :: true :: true :: false :: false :: false :: false :: false :: false :: false :: false :: []))) (a' := { tmps := List.toArray (z0 :: z1 :: z2 :: z3 :: (.pointer (some ⟨b4, 0, none⟩)) :: (.pointer (some ⟨b5, 0, none⟩)) :: z6 :: z7 :: z8 :: (.bool true) :: (.pointer (some ⟨b10, 0, none⟩)) :: (.pointer (some ⟨b11, 0, none⟩)) :: (.pointer (some ⟨b12, 0, none⟩)) :: z13 :: (.pointer (some ⟨b14, 0, none⟩)) :: z15 :: z16 :: z17 :: z18 :: z19 :: z20 :: z21 :: z22 :: z23 :: z24 :: z25 :: z26 :: z27 :: z28 :: z29 :: z30 :: z31 :: z32 :: z33 :: z34 :: z35 :: z36 :: z37 :: z38 :: z39 :: z40 :: z41 :: z42 :: z43 :: z44 :: (.bool true) :: (.bool true) :: (.agg (vals .u8 32 s)) :: (.agg (vals .u8 32 g)) :: (.agg (vals .u8 32 (byt (xm s g)))) :: (.agg (vals .u8 32 m)) :: (.bool true) :: (.bool true) :: (.bool true) :: (.agg (vals .u8 32 f)) :: (.agg (vals .u8 32 p)) :: (.agg (vals .u8 32 (byt (xm f p)))) :: (.agg (vals .u8 32 m)) :: (.bool true) :: (.bool true) :: z60 :: z61 :: z62 :: z63 :: z64 :: z65 :: z66 :: []), defers := [] }) (by kernel_rfl) (by kernel_rfl) ?_
  refine wpAnyH_take (i := 15) (oi := bi11Op15) (v := .bool true) rfl (by kernel_rfl) (by kernel_rfl) (by kernel_rfl) (fun _ _ _ => hQ _ _ _ _ _) (Or.inl ⟨by kernel_rfl, fun _ _ => by kernel_rfl⟩) hS' ?_
  refine wpAnyH_take (i := 16) (oi := bi11Op16) (v := .agg (vals .u8 32 f)) rfl (by kernel_rfl) (by kernel_rfl) (by kernel_rfl) (fun _ _ _ => hQ _ _ _ _ _) (yields_S (fun _ h => h.keep _ _ _ nb4 hb4) (by kernel_rfl) 22 _ rfl (by kernel_rfl) _ Try.underlying22 rfl (size_by _)) hS' ?_
  refine wpAnyH_take (i := 17) (oi := bi11Op17) (v := .agg (vals .u8 32 l)) rfl (by kernel_rfl) (by kernel_rfl) (by kernel_rfl) (fun _ _ _ => hQ _ _ _ _ _) (yields_S (fun _ h => h.keep _ _ _ nb14 hb14) (by kernel_rfl) 22 _ rfl (by kernel_rfl) _ Try.underlying22 rfl (size_by _)) hS' ?_
  refine wpAnyH_at (listed' := (List.toArray (true :: true :: true :: true :: true :: true :: true :: true :: true :: true :: true :: true :: true :: true :: true :: true :: true :: true :: false :: false :: false :: false :: false :: []))) (a' := { tmps := List.toArray (z0 :: z1 :: z2 :: z3 :: (.pointer (some ⟨b4, 0, none⟩)) :: (.pointer (some ⟨b5, 0, none⟩)) :: z6 :: z7 :: z8 :: (.bool true) :: (.pointer (some ⟨b10, 0, none⟩)) :: (.pointer (some ⟨b11, 0, none⟩)) :: (.pointer (some ⟨b12, 0, none⟩)) :: z13 :: (.pointer (some ⟨b14, 0, none⟩)) :: z15 :: z16 :: z17 :: z18 :: z19 :: z20 :: z21 :: z22 :: z23 :: z24 :: z25 :: z26 :: z27 :: z28 :: z29 :: z30 :: z31 :: z32 :: z33 :: z34 :: z35 :: z36 :: z37 :: z38 :: z39 :: z40 :: z41 :: z42 :: z43 :: z44 :: (.bool true) :: (.bool true) :: (.agg (vals .u8 32 s)) :: (.agg (vals .u8 32 g)) :: (.agg (vals .u8 32 (byt (xm s g)))) :: (.agg (vals .u8 32 m)) :: (.bool true) :: (.bool true) :: (.bool true) :: (.agg (vals .u8 32 f)) :: (.agg (vals .u8 32 p)) :: (.agg (vals .u8 32 (byt (xm f p)))) :: (.agg (vals .u8 32 m)) :: (.bool true) :: (.bool true) :: (.bool true) :: (.agg (vals .u8 32 f)) :: (.agg (vals .u8 32 l)) :: z63 :: z64 :: z65 :: z66 :: []), defers := [] }) (by kernel_rfl) (by kernel_rfl) ?_
  refine wpAnyH_take (i := 19) (oi := bi11Op19) (v := .agg (vals .u8 32 m)) rfl (by kernel_rfl) (by kernel_rfl) (by kernel_rfl) (fun _ _ _ => hQ _ _ _ _ _) (yields_S (fun _ h => h.keep _ _ _ nb10 hb10) (by kernel_rfl) 22 _ rfl (by kernel_rfl) _ Try.underlying22 rfl (size_by _)) hS' ?_
  exact wpAnyH_at (by kernel_rfl) (by kernel_rfl) (bi11_1 C w' hS' )
set_option maxRecDepth 100000 in
set_option maxHeartbeats 2000000 in
theorem bi11_3 (C : bi11C Q u z0 z1 z2 z3 z6 z7 z8 z13 z15 z16 z17 z18 z19 z20 z21 z22 z23 z24 z25 z26 z27 z28 z29 z30 z31 z32 z33 z34 z35 z36 z37 z38 z39 z40 z41 z42 z43 z44 z45 z46 z47 z48 z49 z50 z51 z52 z53 z54 z55 z56 z57 z58 z59 z60 z61 z62 z63 z64 z65 z66 b4 b5 b10 b11 b12 b14 f g m s p l) (w : World) (hS : Kp [] u w) :
    wpAnyH Try.prog .any bi11Ops Q (Kp [] u) 18 (List.toArray (true :: true :: true :: true :: false :: true :: false :: false :: false :: false :: false :: false :: false :: false :: false :: false :: false :: false :: false :: false :: false :: false :: false :: [])) { tmps := List.toArray (z0 :: z1 :: z2 :: z3 :: (.pointer (some ⟨b4, 0, none⟩)) :: (.pointer (some ⟨b5, 0, none⟩)) :: z6 :: z7 :: z8 :: (.bool true) :: (.pointer (some ⟨b10, 0, none⟩)) :: (.pointer (some ⟨b11, 0, none⟩)) :: (.pointer (some ⟨b12, 0, none⟩)) :: z13 :: (.pointer (some ⟨b14, 0, none⟩)) :: z15 :: z16 :: z17 :: z18 :: z19 :: z20 :: z21 :: z22 :: z23 :: z24 :: z25 :: z26 :: z27 :: z28 :: z29 :: z30 :: z31 :: z32 :: z33 :: z34 :: z35 :: z36 :: z37 :: z38 :: z39 :: z40 :: z41 :: z42 :: z43 :: z44 :: (.bool true) :: (.bool true) :: (.agg (vals .u8 32 s)) :: (.agg (vals .u8 32 g)) :: z49 :: (.agg (vals .u8 32 m)) :: z51 :: z52 :: z53 :: z54 :: z55 :: z56 :: z57 :: z58 :: z59 :: z60 :: z61 :: z62 :: z63 :: z64 :: z65 :: z66 :: []), defers := [] } w := by
  obtain ⟨hQ, hf, hg, hs, hp, hl, e1, e2, e3, hb4, nb4, hb5, nb5, hb10, nb10, hb11, nb11, hb12, nb12, hb14, nb14, _⟩ := id C
  refine wpAnyH_ready (rs := [4]) (by kernel_rfl) (by simp) ?_
  refine AllReadyH.cons (o := bi11Op4) rfl (fun K hK => ?_) AllReadyH.nil
  rw [if_pos (by rfl)]
  refine wp_call_val 9 #[.agg (vals .u8 32 s), .agg (vals .u8 32 g)] (by kernel_rfl) (.agg (vals .u8 32 (byt (xm s g)))) (mul_c9 s g _ hs hg) ?_
  intro w' hbw
  have hS' := hS.call hbw
  refine hK.out _ _ hS' (fun _ => ?_)
  refine wpAnyH_take (i := 6) (oi := bi11Op6) (v := .bool true) rfl (by kernel_rfl) (by kernel_rfl) (by kernel_rfl) (fun _ _ _ => hQ _ _ _ _ _) (yeq (by kernel_rfl) _ _ (byt (xm s g)) m rfl (by kernel_rfl) (by kernel_rfl) e1) hS' ?_
  refine wpAnyH_take (i := 7) (oi := bi11Op7) (v := .bool true) rfl (by kernel_rfl) (by kernel_rfl) (by kernel_rfl) (fun _ _ _ => hQ _ _ _ _ _) (Or.inl ⟨by kernel_rfl, fun _ _ => by kernel_rfl⟩) hS' ?_
  refine wpAnyH_take (i := 8) (oi := bi11Op8) (v := .bool true) rfl (by kernel_rfl) (by kernel_rfl) (by kernel_rfl) (fun _ _ _ => hQ _ _ _ _ _) (Or.inl ⟨by kernel_rfl, fun _ _ => by kernel_rfl⟩) hS' ?_
  refine wpAnyH_at (listed' := (List.toArray (true :: true :: true :: true :: true :: true :: true :: true :: true :: false :: false :: false :: false :: false :: false :: false :: false :: false :: false :: false :: false :: false :: false :: []))) (a' := { tmps := List.toArray (z0 :: z1 :: z2 :: z3 :: (.pointer (some ⟨b4, 0, none⟩)) :: (.pointer (some ⟨b5, 0, none⟩)) :: z6 :: z7 :: z8 :: (.bool true) :: (.pointer (some ⟨b10, 0, none⟩)) :: (.pointer (some ⟨b11, 0, none⟩)) :: (.pointer (some ⟨b12, 0, none⟩)) :: z13 :: (.pointer (some ⟨b14, 0, none⟩)) :: z15 :: z16 :: z17 :: z18 :: z19 :: z20 :: z21 :: z22 :: z23 :: z24 :: z25 :: z26 :: z27 :: z28 :: z29 :: z30 :: z31 :: z32 :: z33 :: z34 :: z35 :: z36 :: z37 :: z38 :: z39 :: z40 :: z41 :: z42 :: z43 :: z44 :: (.bool true) :: (.bool true) :: (.agg (vals .u8 32 s)) :: (.agg (vals .u8 32 g)) :: (.agg (vals .u8 32 (byt (xm s g)))) :: (.agg (vals .u8 32 m)) :: (.bool true) :: (.bool true) :: (.bool true) :: z54 :: z55 :: z56 :: z57 :: z58 :: z59 :: z60 :: z61 :: z62 :: z63 :: z64 :: z65 :: z66 :: []), defers := [] }) (by kernel_rfl) (by kernel_rfl) ?_
  refine wpAnyH_take (i := 9) (oi := bi11Op9) (v := .agg (vals .u8 32 f)) rfl (by kernel_rfl) (by kernel_rfl) (by kernel_rfl) (fun _ _ _ => hQ _ _ _ _ _) (yields_S (fun _ h => h.keep _ _ _ nb4 hb4) (by kernel_rfl) 22 _ rfl (by kernel_rfl) _ Try.underlying22 rfl (size_by _)) hS' ?_
  refine wpAnyH_take (i := 10) (oi := bi11Op10) (v := .agg (vals .u8 32 p)) rfl (by kernel_rfl) (by kernel_rfl) (by kernel_rfl) (fun _ _ _ => hQ _ _ _ _ _) (yields_S (fun _ h => h.keep _ _ _ nb12 hb12) (by kernel_rfl) 22 _ rfl (by kernel_rfl) _ Try.underlying22 rfl (size_by _)) hS' ?_
  refine wpAnyH_take (i := 12) (oi := bi11Op12) (v := .agg (vals .u8 32 m)) rfl (by kernel_rfl) (by kernel_rfl) (by kernel_rfl) (fun _ _ _ => hQ _ _ _ _ _) (yields_S (fun _ h => h.keep _ _ _ nb10 hb10) (by kernel_rfl) 22 _ rfl (by kernel_rfl) _ Try.underlying22 rfl (size_by _)) hS' ?_
  refine wpAnyH_at (listed' := (List.toArray (true :: true :: true :: true :: true :: true :: true :: true :: true :: true :: true :: false :: true :: false :: false :: false :: false :: false :: false :: false :: false :: false :: false :: []))) (a' := { tmps := List.toArray (z0 :: z1 :: z2 :: z3 :: (.pointer (some ⟨b4, 0, none⟩)) :: (.pointer (some ⟨b5, 0, none⟩)) :: z6 :: z7 :: z8 :: (.bool true) :: (.pointer (some ⟨b10, 0, none⟩)) :: (.pointer (some ⟨b11, 0, none⟩)) :: (.pointer (some ⟨b12, 0, none⟩)) :: z13 :: (.pointer (some ⟨b14, 0, none⟩)) :: z15 :: z16 :: z17 :: z18 :: z19 :: z20 :: z21 :: z22 :: z23 :: z24 :: z25 :: z26 :: z27 :: z28 :: z29 :: z30 :: z31 :: z32 :: z33 :: z34 :: z35 :: z36 :: z37 :: z38 :: z39 :: z40 :: z41 :: z42 :: z43 :: z44 :: (.bool true) :: (.bool true) :: (.agg (vals .u8 32 s)) :: (.agg (vals .u8 32 g)) :: (.agg (vals .u8 32 (byt (xm s g)))) :: (.agg (vals .u8 32 m)) :: (.bool true) :: (.bool true) :: (.bool true) :: (.agg (vals .u8 32 f)) :: (.agg (vals .u8 32 p)) :: z56 :: (.agg (vals .u8 32 m)) :: z58 :: z59 :: z60 :: z61 :: z62 :: z63 :: z64 :: z65 :: z66 :: []), defers := [] }) (by kernel_rfl) (by kernel_rfl) ?_
  exact wpAnyH_at (by kernel_rfl) (by kernel_rfl) (bi11_2 C w' hS' )
end
set_option maxRecDepth 100000 in
set_option maxHeartbeats 2000000 in
theorem bi11_region (Q : Exit → Act → World → Prop) (hQ : ∀ c a w n v, Q (.panic c) (a.put (some n) v) w → Q (.panic c) a w) (u : World) (z0 z1 z2 z3 z6 z7 z8 z13 z15 z16 z17 z18 z19 z20 z21 z22 z23 z24 z25 z26 z27 z28 z29 z30 z31 z32 z33 z34 z35 z36 z37 z38 z39 z40 z41 z42 z43 z44 z45 z46 z47 z48 z49 z50 z51 z52 z53 z54 z55 z56 z57 z58 z59 z60 z61 z62 z63 z64 z65 z66 : Value) (b4 b5 b10 b11 b12 b14 : Nat) (f g m s p l : Nat → Nat) (hf : ∀ i, f i < 256) (hg : ∀ i, g i < 256) (hs : ∀ i, s i < 256) (hp : ∀ i, p i < 256) (hl : ∀ i, l i < 256) (e1 : sameB (byt (xm s g)) m = true) (e2 : sameB (byt (xm f p)) m = true) (e3 : sameB (byt (xm f l)) m = true) (hb4 : Blk u b4 (vals .u8 32 f) 22) (nb4 : b4 ∉ ([] : List Nat)) (hb5 : Blk u b5 (vals .u8 32 g) 22) (nb5 : b5 ∉ ([] : List Nat)) (hb10 : Blk u b10 (vals .u8 32 m) 22) (nb10 : b10 ∉ ([] : List Nat)) (hb11 : Blk u b11 (vals .u8 32 s) 22) (nb11 : b11 ∉ ([] : List Nat)) (hb12 : Blk u b12 (vals .u8 32 p) 22) (nb12 : b12 ∉ ([] : List Nat)) (hb14 : Blk u b14 (vals .u8 32 l) 22) (nb14 : b14 ∉ ([] : List Nat)) (H : ∀ (w : World), Kp [] u w → Q .normal { tmps := List.toArray (z0 :: z1 :: z2 :: z3 :: (.pointer (some ⟨b4, 0, none⟩)) :: (.pointer (some ⟨b5, 0, none⟩)) :: z6 :: z7 :: (.bool true) :: (.bool true) :: (.pointer (some ⟨b10, 0, none⟩)) :: (.pointer (some ⟨b11, 0, none⟩)) :: (.pointer (some ⟨b12, 0, none⟩)) :: z13 :: (.pointer (some ⟨b14, 0, none⟩)) :: z15 :: z16 :: z17 :: z18 :: z19 :: z20 :: z21 :: z22 :: z23 :: z24 :: z25 :: z26 :: z27 :: z28 :: z29 :: z30 :: z31 :: z32 :: z33 :: z34 :: z35 :: z36 :: z37 :: z38 :: z39 :: z40 :: z41 :: z42 :: z43 :: z44 :: (.bool true) :: (.bool true) :: (.agg (vals .u8 32 s)) :: (.agg (vals .u8 32 g)) :: (.agg (vals .u8 32 (byt (xm s g)))) :: (.agg (vals .u8 32 m)) :: (.bool true) :: (.bool true) :: (.bool true) :: (.agg (vals .u8 32 f)) :: (.agg (vals .u8 32 p)) :: (.agg (vals .u8 32 (byt (xm f p)))) :: (.agg (vals .u8 32 m)) :: (.bool true) :: (.bool true) :: (.bool true) :: (.agg (vals .u8 32 f)) :: (.agg (vals .u8 32 l)) :: (.agg (vals .u8 32 (byt (xm f l)))) :: (.agg (vals .u8 32 m)) :: (.bool true) :: (.bool true) :: []), defers := [] } w) :
    (Code.region 11 bi11Ops true).wp Try.prog Q { tmps := List.toArray (z0 :: z1 :: z2 :: z3 :: (.pointer (some ⟨b4, 0, none⟩)) :: (.pointer (some ⟨b5, 0, none⟩)) :: z6 :: z7 :: z8 :: (.bool true) :: (.pointer (some ⟨b10, 0, none⟩)) :: (.pointer (some ⟨b11, 0, none⟩)) :: (.pointer (some ⟨b12, 0, none⟩)) :: z13 :: (.pointer (some ⟨b14, 0, none⟩)) :: z15 :: z16 :: z17 :: z18 :: z19 :: z20 :: z21 :: z22 :: z23 :: z24 :: z25 :: z26 :: z27 :: z28 :: z29 :: z30 :: z31 :: z32 :: z33 :: z34 :: z35 :: z36 :: z37 :: z38 :: z39 :: z40 :: z41 :: z42 :: z43 :: z44 :: z45 :: z46 :: z47 :: z48 :: z49 :: z50 :: z51 :: z52 :: z53 :: z54 :: z55 :: z56 :: z57 :: z58 :: z59 :: z60 :: z61 :: z62 :: z63 :: z64 :: z65 :: z66 :: []), defers := [] } u := by
  have C : bi11C Q u z0 z1 z2 z3 z6 z7 z8 z13 z15 z16 z17 z18 z19 z20 z21 z22 z23 z24 z25 z26 z27 z28 z29 z30 z31 z32 z33 z34 z35 z36 z37 z38 z39 z40 z41 z42 z43 z44 z45 z46 z47 z48 z49 z50 z51 z52 z53 z54 z55 z56 z57 z58 z59 z60 z61 z62 z63 z64 z65 z66 b4 b5 b10 b11 b12 b14 f g m s p l := ⟨hQ, hf, hg, hs, hp, hl, e1, e2, e3, hb4, nb4, hb5, nb5, hb10, nb10, hb11, nb11, hb12, nb12, hb14, nb14, H⟩
  refine wp_region_held_drew (S := (Kp [] u)) (by kernel_rfl) (Kp.drew _ u) (fun hS' => ?_)
  refine wpAnyH_take (i := 0) (oi := bi11Op0) (v := .bool true) rfl (by kernel_rfl) (by kernel_rfl) (by kernel_rfl) (fun _ _ _ => hQ _ _ _ _ _) (Or.inl ⟨by kernel_rfl, fun _ _ => by kernel_rfl⟩) hS' ?_
  refine wpAnyH_take (i := 1) (oi := bi11Op1) (v := .bool true) rfl (by kernel_rfl) (by kernel_rfl) (by kernel_rfl) (fun _ _ _ => hQ _ _ _ _ _) (Or.inl ⟨by kernel_rfl, fun _ _ => by kernel_rfl⟩) hS' ?_
  refine wpAnyH_take (i := 2) (oi := bi11Op2) (v := .agg (vals .u8 32 s)) rfl (by kernel_rfl) (by kernel_rfl) (by kernel_rfl) (fun _ _ _ => hQ _ _ _ _ _) (yields_S (fun _ h => h.keep _ _ _ nb11 hb11) (by kernel_rfl) 22 _ rfl (by kernel_rfl) _ Try.underlying22 rfl (size_by _)) hS' ?_
  refine wpAnyH_at (listed' := (List.toArray (true :: true :: true :: false :: false :: false :: false :: false :: false :: false :: false :: false :: false :: false :: false :: false :: false :: false :: false :: false :: false :: false :: false :: []))) (a' := { tmps := List.toArray (z0 :: z1 :: z2 :: z3 :: (.pointer (some ⟨b4, 0, none⟩)) :: (.pointer (some ⟨b5, 0, none⟩)) :: z6 :: z7 :: z8 :: (.bool true) :: (.pointer (some ⟨b10, 0, none⟩)) :: (.pointer (some ⟨b11, 0, none⟩)) :: (.pointer (some ⟨b12, 0, none⟩)) :: z13 :: (.pointer (some ⟨b14, 0, none⟩)) :: z15 :: z16 :: z17 :: z18 :: z19 :: z20 :: z21 :: z22 :: z23 :: z24 :: z25 :: z26 :: z27 :: z28 :: z29 :: z30 :: z31 :: z32 :: z33 :: z34 :: z35 :: z36 :: z37 :: z38 :: z39 :: z40 :: z41 :: z42 :: z43 :: z44 :: (.bool true) :: (.bool true) :: (.agg (vals .u8 32 s)) :: z48 :: z49 :: z50 :: z51 :: z52 :: z53 :: z54 :: z55 :: z56 :: z57 :: z58 :: z59 :: z60 :: z61 :: z62 :: z63 :: z64 :: z65 :: z66 :: []), defers := [] }) (by kernel_rfl) (by kernel_rfl) ?_
  refine wpAnyH_take (i := 3) (oi := bi11Op3) (v := .agg (vals .u8 32 g)) rfl (by kernel_rfl) (by kernel_rfl) (by kernel_rfl) (fun _ _ _ => hQ _ _ _ _ _) (yields_S (fun _ h => h.keep _ _ _ nb5 hb5) (by kernel_rfl) 22 _ rfl (by kernel_rfl) _ Try.underlying22 rfl (size_by _)) hS' ?_
  refine wpAnyH_take (i := 5) (oi := bi11Op5) (v := .agg (vals .u8 32 m)) rfl (by kernel_rfl) (by kernel_rfl) (by kernel_rfl) (fun _ _ _ => hQ _ _ _ _ _) (yields_S (fun _ h => h.keep _ _ _ nb10 hb10) (by kernel_rfl) 22 _ rfl (by kernel_rfl) _ Try.underlying22 rfl (size_by _)) hS' ?_
  exact wpAnyH_at (by kernel_rfl) (by kernel_rfl) (bi11_3 C u.drew hS' )
set_option maxRecDepth 100000 in
set_option maxHeartbeats 4000000 in
theorem bits_walk (f g : Nat → Nat) (lo hi : Nat) (w : World) (hf : ∀ i, f i < 256) (hg : ∀ i, g i < 256) (hlo : lo < 256) (hhi : hi < 256) : Ret 5 #[.agg (vals .u8 32 f), .agg (vals .u8 32 g), .int .u8 ((lo : Nat) : Int), .int .u8 ((hi : Nat) : Int)] w (.bool true) := by
  obtain ⟨v1, a1, l1, d1⟩ := xor_low (f 0) (lo % 8) (hf 0) (by omega)
  obtain ⟨v2, a2, l2, d2⟩ := xor_high (f 31) (hi / 64) (hf 31) (by omega)
  obtain ⟨v3, a3, l3, d3⟩ := xor_top (g 31) (hg 31)
  have m1 := and7 lo hlo
  have m2 := and192 hi hhi
  have m4 := clr_top (g 31) (hg 31)
  have A1 := hide a1
  have A2 := hide a2
  have A3 := hide a3
  have M1 := hide m1
  have M2 := hide m2
  have M4 := hide m4
  clear a1 a2 a3 m1 m2 m4 hlo hhi
  obtain ⟨s, es⟩ : ∃ s : Nat → Nat, s = fun j => if j = 31 then v2 else (if j = 0 then v1 else f j) := ⟨_, rfl⟩
  obtain ⟨p, ep⟩ : ∃ p : Nat → Nat, p = fun j => if j = 31 then v3 else g j := ⟨_, rfl⟩
  have hs : ∀ i, s i < 256 := fun i => by rw [es]; show (if i = 31 then v2 else (if i = 0 then v1 else f i)) < 256; split; exact l2; split; exact l1; exact hf i
  have hp : ∀ i, p i < 256 := fun i => by rw [ep]; show (if i = 31 then v3 else g i) < 256; split; exact l3; exact hg i
  have hsc : sc s = sc f := sc_congr s f (by rw [es]; exact d1) (fun i h0 h31 => by rw [es]; show (if i = 31 then v2 else (if i = 0 then v1 else f i)) = f i; rw [if_neg (by omega), if_neg (by omega)]) (by rw [es]; exact d2)
  have hcp : co p = co g := co_congr p g (fun i h => by rw [ep]; show (if i = 31 then v3 else g i) = g i; rw [if_neg (by omega)]) (by rw [ep]; exact d3)
  have hcl : co (byt (co g)) = co g := co_byt _ (co_lt g)
  have e1 : sameB (byt (xm s g)) (byt (xm f g)) = true := by unfold xm; rw [hsc]; exact same_self _
  have e2 : sameB (byt (xm f p)) (byt (xm f g)) = true := by unfold xm; rw [hcp]; exact same_self _
  have e3 : sameB (byt (xm f (byt (co g)))) (byt (xm f g)) = true := by unfold xm; rw [hcl]; exact same_self _
  have E1 := hide e1
  have E2 := hide e2
  have E3 := hide e3
  have Es := hide es
  have Ep := hide ep
  clear e1 e2 e3 hcl hcp hsc d1 d2 d3 l1 l2 l3 es ep
  go_enter Try.func5, Try.ntmps5
  go_upto_region 0 with (fail)
  refine bi0_region _ (fun _ _ _ _ _ h => h) w _ _ _ _ _ _ _ _ f g ?_
  intro n4 n5 w1 hK g4 B4 g5 B5 e45
  have hL1 := hK.below w _ (Nat.le_refl _) (Below.refl _ w)
  have s1 := hK.size
  go_upto_region 1 with (fail)
  refine bi1_region _ (fun _ _ _ _ _ h => h) w1 _ _ _ _ _ _ _ _ _ _ _ _ _ _ _ _ _ ?_
  intro w2 hK2
  have C4 := hK2.keep _ _ _ (not_nil _) B4
  have C5 := hK2.keep _ _ _ (not_nil _) B5
  have hL2 := hK2.below w _ s1 hL1
  have s2 := Nat.le_trans s1 hK2.size
  clear hK hK2 hL1 B4 B5
  go_upto_region 2 with (fail)
  refine bi2_region _ (fun _ _ _ _ _ h => h) w2 _ _ _ _ _ _ _ _ _ _ _ _ _ _ _ _ _ _ n4 n5 f g hf hg C4 (not_nil _) C5 (not_nil _) ?_
  intro n10 w3 hK3 g10 D10
  have D4 := hK3.keep _ _ _ (not_nil _) C4
  have D5 := hK3.keep _ _ _ (not_nil _) C5
  have hL3 := hK3.below w _ s2 hL2
  have s3 := Nat.le_trans s2 hK3.size
  clear hK3 hL2 C4 C5
  go_upto_region 3 with (fail)
  refine bi3_region _ (fun _ _ _ _ _ h => h) w3 _ _ _ _ _ _ _ _ _ _ _ _ _ _ _ _ _ _ _ _ n4 f D4 (not_nil _) ?_
  intro n11 w4 hK4 g11 F11
  have F4 := hK4.keep _ _ _ (not_nil _) D4
  have F5 := hK4.keep _ _ _ (not_nil _) D5
  have F10 := hK4.keep _ _ _ (not_nil _) D10
  have hL4 := hK4.below w _ s3 hL3
  have s4 := Nat.le_trans s3 hK4.size
  have q4 : n4 < n11 := Nat.lt_of_lt_of_le D4.lt g11
  have q5 : n5 < n11 := Nat.lt_of_lt_of_le D5.lt g11
  have q10 : n10 < n11 := Nat.lt_of_lt_of_le D10.lt g11
  clear hK4 hL3 D4 D5 D10
  go_upto_region 4 with (fail)
  refine bi4_region _ (fun _ _ _ _ _ h => h) w4 _ _ _ _ _ _ _ _ _ _ _ _ _ _ _ _ _ _ _ _ _ _ _ _ _ n11 f lo (lo % 8) v1 M1.out A1.out F11 ?_
  intro w5 hK5 G11
  have G4 := hK5.keep _ _ _ (not_one (by omega)) F4
  have G5 := hK5.keep _ _ _ (not_one (by omega)) F5
  have G10 := hK5.keep _ _ _ (not_one (by omega)) F10
  have hL5 := hK5.low _ _ (by intro x hx; simp at hx; omega) s4 hL4
  have s5 := Nat.le_trans s4 hK5.size
  clear hK5 hL4 F4 F5 F10 F11
  go_upto_region 5 with (fail)
  refine bi5_region _ (fun _ _ _ _ _ h => h) w5 _ _ _ _ _ _ _ _ _ _ _ _ _ _ _ _ _ _ _ _ _ _ _ _ _ _ _ _ _ _ _ n11 (fun j => if j = 0 then v1 else f j) hi (hi / 64 * 64) v2 M2.out A2.out G11 ?_
  intro w6 hK6 H11'
  have H11 := H11'.cast (show _ = vals .u8 32 s by rw [Es.out])
  have H4 := hK6.keep _ _ _ (not_one (by omega)) G4
  have H5 := hK6.keep _ _ _ (not_one (by omega)) G5
  have H10 := hK6.keep _ _ _ (not_one (by omega)) G10
  have hL6 := hK6.low _ _ (by intro x hx; simp at hx; omega) s5 hL5
  have s6 := Nat.le_trans s5 hK6.size
  clear hK6 hL5 G4 G5 G10 G11 H11'
  go_upto_region 6 with (fail)
  refine bi6_region _ (fun _ _ _ _ _ h => h) w6 _ _ _ _ _ _ _ _ _ _ _ _ _ _ _ _ _ _ _ _ _ _ _ _ _ _ _ _ _ _ _ _ _ n5 g H5 (not_nil _) ?_
  intro n12 w7 hK7 g12 J12
  have J4 := hK7.keep _ _ _ (not_nil _) H4
  have J5 := hK7.keep _ _ _ (not_nil _) H5
  have J10 := hK7.keep _ _ _ (not_nil _) H10
  have J11 := hK7.keep _ _ _ (not_nil _) H11
  have hL7 := hK7.below w _ s6 hL6
  have s7 := Nat.le_trans s6 hK7.size
  have r4 : n4 < n12 := Nat.lt_of_lt_of_le H4.lt g12
  have r5 : n5 < n12 := Nat.lt_of_lt_of_le H5.lt g12
  have r10 : n10 < n12 := Nat.lt_of_lt_of_le H10.lt g12
  have r11 : n11 < n12 := Nat.lt_of_lt_of_le H11.lt g12
  clear hK7 hL6 H4 H5 H10 H11
  go_upto_region 7 with (fail)
  refine bi7_region _ (fun _ _ _ _ _ h => h) w7 _ _ _ _ _ _ _ _ _ _ _ _ _ _ _ _ _ _ _ _ _ _ _ _ _ _ _ _ _ _ _ _ _ _ _ _ _ n12 g v3 A3.out J12 ?_
  intro w8 hK8 L12'
  have L12 := L12'.cast (show _ = vals .u8 32 p by rw [Ep.out])
  have L4 := hK8.keep _ _ _ (not_one (by omega)) J4
  have L5 := hK8.keep _ _ _ (not_one (by omega)) J5
  have L10 := hK8.keep _ _ _ (not_one (by omega)) J10
  have L11 := hK8.keep _ _ _ (not_one (by omega)) J11
  have hL8 := hK8.low _ _ (by intro x hx; simp at hx; omega) s7 hL7
  have s8 := Nat.le_trans s7 hK8.size
  clear hK8 hL7 J4 J5 J10 J11 J12 L12'
  go_upto_region 8 with (fail)
  refine bi8_region _ (fun _ _ _ _ _ h => h) w8 _ _ _ _ _ _ _ _ _ _ _ _ _ _ _ _ _ _ _ _ _ _ _ _ _ _ _ _ _ _ _ _ _ _ _ _ _ _ n5 g L5 (not_nil _) ?_
  intro n13 w9 hK9 g13 P13
  have P4 := hK9.keep _ _ _ (not_nil _) L4
  have P5 := hK9.keep _ _ _ (not_nil _) L5
  have P10 := hK9.keep _ _ _ (not_nil _) L10
  have P11 := hK9.keep _ _ _ (not_nil _) L11
  have P12 := hK9.keep _ _ _ (not_nil _) L12
  have hL9 := hK9.below w _ s8 hL8
  have s9 := Nat.le_trans s8 hK9.size
  have t4 : n4 < n13 := Nat.lt_of_lt_of_le L4.lt g13
  have t5 : n5 < n13 := Nat.lt_of_lt_of_le L5.lt g13
  have t10 : n10 < n13 := Nat.lt_of_lt_of_le L10.lt g13
  have t11 : n11 < n13 := Nat.lt_of_lt_of_le L11.lt g13
  have t12 : n12 < n13 := Nat.lt_of_lt_of_le L12.lt g13
  clear hK9 hL8 L4 L5 L10 L11 L12
  go_upto_region 9 with (fail)
  refine bi9_region _ (fun _ _ _ _ _ h => h) w9 _ _ _ _ _ _ _ _ _ _ _ _ _ _ _ _ _ _ _ _ _ _ _ _ _ _ _ _ _ _ _ _ _ _ _ _ _ _ _ _ _ _ n13 g (g 31 % 128) M4.out P13 ?_
  intro w10 hK10 S13'
  have S13 := S13'.cast (vals_congr .u8 32 _ (cob g) fun j _ => by unfold cob; rfl)
  have S4 := hK10.keep _ _ _ (not_one (by omega)) P4
  have S5 := hK10.keep _ _ _ (not_one (by omega)) P5
  have S10 := hK10.keep _ _ _ (not_one (by omega)) P10
  have S11 := hK10.keep _ _ _ (not_one (by omega)) P11
  have S12 := hK10.keep _ _ _ (not_one (by omega)) P12
  have hL10 := hK10.low _ _ (by intro x hx; simp at hx; omega) s9 hL9
  have s10 := Nat.le_trans s9 hK10.size
  clear hK10 hL9 P4 P5 P10 P11 P12 P13 S13'
  go_upto_region 10 with (fail)
  refine bi10_region _ (fun _ _ _ _ _ h => h) w10 _ _ _ _ _ _ _ _ _ _ _ _ _ _ _ _ _ _ _ _ _ _ _ _ _ _ _ _ _ _ _ _ _ _ _ _ _ _ _ _ _ _ _ _ _ n13 (cob g) (cob_lt g hg) S13 (not_nil _) ?_
  intro n14 w11 hK11 g14 T14
  have T4 := hK11.keep _ _ _ (not_nil _) S4
  have T5 := hK11.keep _ _ _ (not_nil _) S5
  have T10 := hK11.keep _ _ _ (not_nil _) S10
  have T11 := hK11.keep _ _ _ (not_nil _) S11
  have T12 := hK11.keep _ _ _ (not_nil _) S12
  have hL11 := hK11.below w _ s10 hL10
  have s11 := Nat.le_trans s10 hK11.size
  clear hK11 hL10 S4 S5 S10 S11 S12 S13
  go_upto_region 11 with (fail)
  refine bi11_region _ (fun _ _ _ _ _ h => h) w11 _ _ _ _ _ _ _ _ _ _ _ _ _ _ _ _ _ _ _ _ _ _ _ _ _ _ _ _ _ _ _ _ _ _ _ _ _ _ _ _ _ _ _ _ _ _ _ _ _ _ _ _ _ _ _ _ _ _ _ _ n4 n5 n10 n11 n12 n14 f g (byt (xm f g)) s p (byt (co g)) hf hg hs hp (byt_lt _) E1.out E2.out E3.out T4 (not_nil _) T5 (not_nil _) T10 (not_nil _) T11 (not_nil _) T12 (not_nil _) T14 (not_nil _) ?_
  intro w12 hK12
  have hL12 := hK12.below w _ s11 hL11
  have s12 := Nat.le_trans s11 hK12.size
  go_wp2_with fail
  go_ret
  exact ⟨rfl, hL12⟩
end Go.Proofs.Ytidhffaphbiapaa

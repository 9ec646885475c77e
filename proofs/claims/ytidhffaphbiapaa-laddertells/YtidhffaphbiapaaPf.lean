/- Walks: scalarOf, coordinate, bitOf. Thirty-two bytes; the bit's place is below 255. -/
import Derived.Test.YtidhffaphbiapaaPe
namespace Go.Proofs.Ytidhffaphbiapaa
open F Go.RowKit

theorem not_one {b x : Nat} (h : b ≠ x) : b ∉ ([x] : List Nat) := by simp [h]
section
variable {o : Oper} {a : Act} {w : World} {K : Act → World → Prop} {Q : Exit → Act → World → Prop}
theorem Kp.cell (w : World) (b i : Nat) (v : Value) : Kp [b] w (w.setCell ⟨b, i, none⟩ v) :=
  ⟨((Below.refl 0 w).setCell (p := ⟨b, i, none⟩) (Nat.zero_le _) v).size, fun b' c t hn hB => hB.setOther i v (fun e => hn (by simp [e])), fun B w0 hX hB hL => hL.setCell (p := ⟨b, i, none⟩) (hX b (by simp)) v⟩
theorem ld8 (x : Operand) (ho : o.op = .load 5 x) (b i : Nat) (hx : a.eval x = .pointer (some ⟨b, i, none⟩)) (f : Nat → Nat) (hB : Blk w b (vals .u8 32 f) 22) (hi : i < 32)
    (h : K (a.put o.dst (.int .u8 ((f i : Nat) : Int))) w) : o.wp Try.prog a w K Q := by
  have hc := (hB.cell i).trans (vals_get _ _ _ _ hi)
  refine wp_val _ ?_ h
  unfold execOp
  simp only [ho, hx]
  go_simp
theorem st8 (x y : Operand) (ho : o.op = .store 5 x y) (b i : Nat) (hx : a.eval x = .pointer (some ⟨b, i, none⟩)) (f : Nat → Nat) (v : Nat) (hy : a.eval y = .int .u8 ((v : Nat) : Int)) (hB : Blk w b (vals .u8 32 f) 22) (hi : i < 32)
    (h : ∀ w', Blk w' b (vals .u8 32 (fun j => if j = i then v else f j)) 22 → Kp [b] w w' → K (a.put o.dst undef) w') : o.wp Try.prog a w K Q := by
  have hc := (hB.cell i).trans (vals_get _ _ _ _ hi)
  have hf := hB.frozen i
  have h' := h _ ((hB.set i (.int .u8 ((v : Nat) : Int))).cast (vals_set .u8 32 f i v)) (Kp.cell w b i _)
  clear h hB
  unfold Oper.wp execOp
  simp only [ho, hx, hy]
  go_simp
  exact h'
end
set_option maxRecDepth 100000
theorem and248 (n : Nat) (h : n < 256) : bits .and .u8 (n : Int) 248 = ((n / 8 * 8 : Nat) : Int) := by
  have := (by decide +kernel : ∀ i : Fin 256, bits .and .u8 ((i.val : Nat) : Int) 248 = ((i.val / 8 * 8 : Nat) : Int)) ⟨n, h⟩
  exact this
theorem and127 (n : Nat) (h : n < 256) : bits .and .u8 (n : Int) 127 = ((n % 128 : Nat) : Int) := by
  have := (by decide +kernel : ∀ i : Fin 256, bits .and .u8 ((i.val : Nat) : Int) 127 = ((i.val % 128 : Nat) : Int)) ⟨n, h⟩
  exact this
theorem or64 (n : Nat) (h : n < 256) : bits .or .u8 ((n % 128 : Nat) : Int) 64 = ((n % 64 + 64 : Nat) : Int) := by
  have := (by decide +kernel : ∀ i : Fin 256, bits .or .u8 ((i.val % 128 : Nat) : Int) 64 = ((i.val % 64 + 64 : Nat) : Int)) ⟨n, h⟩
  exact this
def so0Op0 : Oper := { dst := some 1, op := Op.box 22 (Operand.tmp 0), type := 0, pos := "ladder.go:40", after := #[], guard := none }
def so0Op1 : Oper := { dst := some 2, op := Op.alloc 22, type := 0, pos := "ladder.go:40", after := #[], guard := none }
def so0Ops : Array Oper := #[so0Op0, so0Op1]
set_option maxRecDepth 100000 in
set_option maxHeartbeats 2000000 in
theorem so0_region (Q : Exit → Act → World → Prop) (hQ : ∀ c a w n v, Q (.panic c) (a.put (some n) v) w → Q (.panic c) a w) (u : World) (z1 z2 : Value) (zz : List Value) (f : Nat → Nat) (H : ∀ (n1 : Nat) (n2 : Nat) (w : World), Kp [] u w → u.heap.size ≤ n1 → Blk w n1 (vals .u8 32 f) 22 → u.heap.size ≤ n2 → Blk w n2 (vals .u8 32 (fun _ => 0)) 22 → n1 ≠ n2 → Q .normal { tmps := List.toArray ((.agg (vals .u8 32 f)) :: (.pointer (some ⟨n1, 0, none⟩)) :: (.pointer (some ⟨n2, 0, none⟩)) :: zz), defers := [] } w) :
    (Code.region 0 so0Ops false).wp Try.prog Q { tmps := List.toArray ((.agg (vals .u8 32 f)) :: z1 :: z2 :: zz), defers := [] } u := by
  have _ := hQ
  have _ := u
  have _ := z1
  have _ := z2
  have _ := zz
  have _ := f
  refine wp_region_list (show wpList _ so0Ops _ [so0Op0, so0Op1] _ _ from ?_)
  have hS : Kp [] u u := Kp.refl _ u
  refine wpList_plain rfl (fun K hK => ?_)
  refine wp_new _ 22 (box_by _ _ _ _ f rfl (by kernel_rfl)) ?_
  intro n1 w0 eb Bn1 hbw
  have hS' := hS.call hbw
  refine hK _ _ ?_
  clear hK K
  have qgn1 : u.heap.size ≤ n1 := (by rw [eb]; exact hS.size)
  have qBn1 : Blk w0 n1 (vals .u8 32 f) 22 := Bn1
  clear hS
  have gn1 := qgn1
  have Bn1 := qBn1
  have hS := hS'
  clear hS' qgn1 qBn1
  refine wpList_fr (a' := { tmps := List.toArray ((.agg (vals .u8 32 f)) :: (.pointer (some ⟨n1, 0, none⟩)) :: z2 :: zz), defers := [] }) (by kernel_rfl) ?_
  refine wpList_plain rfl (fun K hK => ?_)
  refine wp_new _ 22 (alloc_by _ _ _ rfl) ?_
  intro n2 w1 eb Bn2 hbw
  have hS' := hS.call hbw
  refine hK _ _ ?_
  clear hK K
  have qgn1 : u.heap.size ≤ n1 := gn1
  have qBn1 : Blk w1 n1 (vals .u8 32 f) 22 := (Bn1.call hbw)
  have qgn2 : u.heap.size ≤ n2 := (by rw [eb]; exact hS.size)
  have qBn2 : Blk w1 n2 (vals .u8 32 (fun _ => 0)) 22 := Bn2
  have qen1n2 : n1 ≠ n2 := (by rw [eb]; exact Nat.ne_of_lt Bn1.lt)
  clear hS gn1 Bn1
  have gn1 := qgn1
  have Bn1 := qBn1
  have gn2 := qgn2
  have Bn2 := qBn2
  have en1n2 := qen1n2
  have hS := hS'
  clear hS' qgn1 qBn1 qgn2 qBn2 qen1n2
  refine wpList_fr (a' := { tmps := List.toArray ((.agg (vals .u8 32 f)) :: (.pointer (some ⟨n1, 0, none⟩)) :: (.pointer (some ⟨n2, 0, none⟩)) :: zz), defers := [] }) (by kernel_rfl) ?_
  refine wpList_nil ?_
  exact H n1 n2 w1 hS gn1 Bn1 gn2 Bn2 en1n2
def so1Op0 : Oper := { dst := some 3, op := Op.indexAddr 22 (Operand.tmp 1) (Operand.const (Value.int IntKind.i64 0)), type := 0, pos := "ladder.go:41", after := #[], guard := none }
def so1Op1 : Oper := { dst := some 4, op := Op.load 5 (Operand.tmp 3), type := 5, pos := "ladder.go:41", after := #[{ on := 0, ground := Ground.data }], guard := none }
def so1Op2 : Oper := { dst := some 5, op := Op.binOp BinOp.and 5 (Operand.tmp 4) (Operand.const (Value.int IntKind.u8 248)) 5, type := 5, pos := "ladder.go:41", after := #[{ on := 1, ground := Ground.data }], guard := none }
def so1Op3 : Oper := { dst := some 6, op := Op.indexAddr 22 (Operand.tmp 1) (Operand.const (Value.int IntKind.i64 0)), type := 0, pos := "ladder.go:41", after := #[{ on := 0, ground := Ground.phase }, { on := 1, ground := Ground.phase }, { on := 2, ground := Ground.phase }], guard := none }
def so1Op4 : Oper := { dst := none, op := Op.store 5 (Operand.tmp 6) (Operand.tmp 5), type := 0, pos := "ladder.go:41", after := #[{ on := 3, ground := Ground.data }, { on := 2, ground := Ground.data }, { on := 0, ground := Ground.phase }, { on := 1, ground := Ground.phase }, { on := 2, ground := Ground.phase }], guard := none }
def so1Ops : Array Oper := #[so1Op0, so1Op1, so1Op2, so1Op3, so1Op4]
set_option maxRecDepth 100000 in
set_option maxHeartbeats 2000000 in
theorem so1_region (Q : Exit → Act → World → Prop) (hQ : ∀ c a w n v, Q (.panic c) (a.put (some n) v) w → Q (.panic c) a w) (u : World) (z0 z3 z4 z5 z6 : Value) (zz : List Value) (b1 b2 : Nat) (f : Nat → Nat) (hf : ∀ i, f i < 256) (hb1 : Blk u b1 (vals .u8 32 f) 22) (hb2 : Blk u b2 (vals .u8 32 (fun _ => 0)) 22) (eb1b2 : b1 ≠ b2) (H : ∀ (w : World), Kp [b1, b2] u w → Blk w b1 (vals .u8 32 (fun j => if j = 0 then f 0 / 8 * 8 else f j)) 22 → Blk w b2 (vals .u8 32 (fun _ => 0)) 22 → Q .normal { tmps := List.toArray (z0 :: (.pointer (some ⟨b1, 0, none⟩)) :: (.pointer (some ⟨b2, 0, none⟩)) :: (.pointer (some ⟨b1, 0, none⟩)) :: (.int .u8 ((f 0 : Nat) : Int)) :: (.int .u8 ((f 0 / 8 * 8 : Nat) : Int)) :: (.pointer (some ⟨b1, 0, none⟩)) :: zz), defers := [] } w) :
    (Code.region 1 so1Ops false).wp Try.prog Q { tmps := List.toArray (z0 :: (.pointer (some ⟨b1, 0, none⟩)) :: (.pointer (some ⟨b2, 0, none⟩)) :: z3 :: z4 :: z5 :: z6 :: zz), defers := [] } u := by
  have _ := hQ
  have _ := u
  have _ := z0
  have _ := z3
  have _ := z4
  have _ := z5
  have _ := z6
  have _ := zz
  have _ := b1
  have _ := b2
  have _ := f
  have _ := hf
  have _ := hb1
  have _ := hb2
  have _ := eb1b2
  refine wp_region_list (show wpList _ so1Ops _ [so1Op0, so1Op1, so1Op2, so1Op3, so1Op4] _ _ from ?_)
  have hS : Kp [b1, b2] u u := Kp.refl _ u
  have Bb1 := hb1
  have Bb2 := hb2
  refine wpList_plain rfl (fun K hK => ?_)
  refine wp_val (.pointer (some ⟨b1, 0, none⟩)) (by kernel_rfl) ?_
  have hS' := hS
  refine hK _ _ ?_
  clear hK K
  have qBb1 : Blk u b1 (vals .u8 32 f) 22 := Bb1
  have qBb2 : Blk u b2 (vals .u8 32 (fun _ => 0)) 22 := Bb2
  clear hS Bb1 Bb2
  have Bb1 := qBb1
  have Bb2 := qBb2
  have hS := hS'
  clear hS' qBb1 qBb2
  refine wpList_fr (a' := { tmps := List.toArray (z0 :: (.pointer (some ⟨b1, 0, none⟩)) :: (.pointer (some ⟨b2, 0, none⟩)) :: (.pointer (some ⟨b1, 0, none⟩)) :: z4 :: z5 :: z6 :: zz), defers := [] }) (by kernel_rfl) ?_
  refine wpList_plain rfl (fun K hK => ?_)
  refine ld8 _ rfl b1 0 (by kernel_rfl) f Bb1 (by omega) ?_
  have hS' := hS
  refine hK _ _ ?_
  clear hK K
  have qBb1 : Blk u b1 (vals .u8 32 f) 22 := Bb1
  have qBb2 : Blk u b2 (vals .u8 32 (fun _ => 0)) 22 := Bb2
  clear hS Bb1 Bb2
  have Bb1 := qBb1
  have Bb2 := qBb2
  have hS := hS'
  clear hS' qBb1 qBb2
  refine wpList_fr (a' := { tmps := List.toArray (z0 :: (.pointer (some ⟨b1, 0, none⟩)) :: (.pointer (some ⟨b2, 0, none⟩)) :: (.pointer (some ⟨b1, 0, none⟩)) :: (.int .u8 ((f 0 : Nat) : Int)) :: z5 :: z6 :: zz), defers := [] }) (by kernel_rfl) ?_
  refine wpList_plain rfl (fun K hK => ?_)
  refine wp_val (.int .u8 ((f 0 / 8 * 8 : Nat) : Int)) (by rw [← and248 (f 0) (hf 0)]; kernel_rfl) ?_
  have hS' := hS
  refine hK _ _ ?_
  clear hK K
  have qBb1 : Blk u b1 (vals .u8 32 f) 22 := Bb1
  have qBb2 : Blk u b2 (vals .u8 32 (fun _ => 0)) 22 := Bb2
  clear hS Bb1 Bb2
  have Bb1 := qBb1
  have Bb2 := qBb2
  have hS := hS'
  clear hS' qBb1 qBb2
  refine wpList_fr (a' := { tmps := List.toArray (z0 :: (.pointer (some ⟨b1, 0, none⟩)) :: (.pointer (some ⟨b2, 0, none⟩)) :: (.pointer (some ⟨b1, 0, none⟩)) :: (.int .u8 ((f 0 : Nat) : Int)) :: (.int .u8 ((f 0 / 8 * 8 : Nat) : Int)) :: z6 :: zz), defers := [] }) (by kernel_rfl) ?_
  refine wpList_plain rfl (fun K hK => ?_)
  refine wp_val (.pointer (some ⟨b1, 0, none⟩)) (by kernel_rfl) ?_
  have hS' := hS
  refine hK _ _ ?_
  clear hK K
  have qBb1 : Blk u b1 (vals .u8 32 f) 22 := Bb1
  have qBb2 : Blk u b2 (vals .u8 32 (fun _ => 0)) 22 := Bb2
  clear hS Bb1 Bb2
  have Bb1 := qBb1
  have Bb2 := qBb2
  have hS := hS'
  clear hS' qBb1 qBb2
  refine wpList_fr (a' := { tmps := List.toArray (z0 :: (.pointer (some ⟨b1, 0, none⟩)) :: (.pointer (some ⟨b2, 0, none⟩)) :: (.pointer (some ⟨b1, 0, none⟩)) :: (.int .u8 ((f 0 : Nat) : Int)) :: (.int .u8 ((f 0 / 8 * 8 : Nat) : Int)) :: (.pointer (some ⟨b1, 0, none⟩)) :: zz), defers := [] }) (by kernel_rfl) ?_
  refine wpList_plain rfl (fun K hK => ?_)
  refine st8 _ _ rfl b1 0 (by kernel_rfl) f (f 0 / 8 * 8) (by kernel_rfl) Bb1 (by omega) ?_
  intro w4 Bq hkw
  have hS' := hS.trans hkw (Z := [b1, b2]) (fun _ h => h) (by simp)
  refine hK _ _ ?_
  clear hK K
  have qBb1 : Blk w4 b1 (vals .u8 32 (fun j => if j = 0 then f 0 / 8 * 8 else f j)) 22 := Bq
  have qBb2 : Blk w4 b2 (vals .u8 32 (fun _ => 0)) 22 := (hkw.keep _ _ _ (not_one (Ne.symm eb1b2)) Bb2)
  clear hS Bb1 Bb2
  have Bb1 := qBb1
  have Bb2 := qBb2
  have hS := hS'
  clear hS' qBb1 qBb2
  refine wpList_fr (a' := { tmps := List.toArray (z0 :: (.pointer (some ⟨b1, 0, none⟩)) :: (.pointer (some ⟨b2, 0, none⟩)) :: (.pointer (some ⟨b1, 0, none⟩)) :: (.int .u8 ((f 0 : Nat) : Int)) :: (.int .u8 ((f 0 / 8 * 8 : Nat) : Int)) :: (.pointer (some ⟨b1, 0, none⟩)) :: zz), defers := [] }) (by kernel_rfl) ?_
  refine wpList_nil ?_
  exact H  w4 hS Bb1 Bb2
def so2Op0 : Oper := { dst := some 7, op := Op.indexAddr 22 (Operand.tmp 1) (Operand.const (Value.int IntKind.i64 31)), type := 0, pos := "ladder.go:42", after := #[], guard := none }
def so2Op1 : Oper := { dst := some 8, op := Op.load 5 (Operand.tmp 7), type := 5, pos := "ladder.go:42", after := #[{ on := 0, ground := Ground.data }], guard := none }
def so2Op2 : Oper := { dst := some 9, op := Op.binOp BinOp.and 5 (Operand.tmp 8) (Operand.const (Value.int IntKind.u8 127)) 5, type := 5, pos := "ladder.go:42", after := #[{ on := 1, ground := Ground.data }], guard := none }
def so2Op3 : Oper := { dst := some 10, op := Op.binOp BinOp.or 5 (Operand.tmp 9) (Operand.const (Value.int IntKind.u8 64)) 5, type := 5, pos := "ladder.go:42", after := #[{ on := 2, ground := Ground.data }], guard := none }
def so2Op4 : Oper := { dst := some 11, op := Op.indexAddr 22 (Operand.tmp 1) (Operand.const (Value.int IntKind.i64 31)), type := 0, pos := "ladder.go:42", after := #[{ on := 0, ground := Ground.phase }, { on := 1, ground := Ground.phase }, { on := 2, ground := Ground.phase }, { on := 3, ground := Ground.phase }], guard := none }
def so2Op5 : Oper := { dst := none, op := Op.store 5 (Operand.tmp 11) (Operand.tmp 10), type := 0, pos := "ladder.go:42", after := #[{ on := 4, ground := Ground.data }, { on := 3, ground := Ground.data }, { on := 0, ground := Ground.phase }, { on := 1, ground := Ground.phase }, { on := 2, ground := Ground.phase }, { on := 3, ground := Ground.phase }], guard := none }
def so2Ops : Array Oper := #[so2Op0, so2Op1, so2Op2, so2Op3, so2Op4, so2Op5]
set_option maxRecDepth 100000 in
set_option maxHeartbeats 2000000 in
theorem so2_region (Q : Exit → Act → World → Prop) (hQ : ∀ c a w n v, Q (.panic c) (a.put (some n) v) w → Q (.panic c) a w) (u : World) (z0 z3 z4 z5 z6 z7 z8 z9 z10 z11 z12 : Value) (b1 b2 : Nat) (f : Nat → Nat) (hf : ∀ i, f i < 256) (hb1 : Blk u b1 (vals .u8 32 f) 22) (hb2 : Blk u b2 (vals .u8 32 (fun _ => 0)) 22) (eb1b2 : b1 ≠ b2) (H : ∀ (w : World), Kp [b1, b2] u w → Blk w b1 (vals .u8 32 (fun j => if j = 31 then f 31 % 64 + 64 else f j)) 22 → Blk w b2 (vals .u8 32 (fun _ => 0)) 22 → Q .normal { tmps := List.toArray (z0 :: (.pointer (some ⟨b1, 0, none⟩)) :: (.pointer (some ⟨b2, 0, none⟩)) :: z3 :: z4 :: z5 :: z6 :: (.pointer (some ⟨b1, 31, none⟩)) :: (.int .u8 ((f 31 : Nat) : Int)) :: (.int .u8 ((f 31 % 128 : Nat) : Int)) :: (.int .u8 ((f 31 % 64 + 64 : Nat) : Int)) :: (.pointer (some ⟨b1, 31, none⟩)) :: z12 :: []), defers := [] } w) :
    (Code.region 2 so2Ops false).wp Try.prog Q { tmps := List.toArray (z0 :: (.pointer (some ⟨b1, 0, none⟩)) :: (.pointer (some ⟨b2, 0, none⟩)) :: z3 :: z4 :: z5 :: z6 :: z7 :: z8 :: z9 :: z10 :: z11 :: z12 :: []), defers := [] } u := by
  have _ := hQ
  have _ := u
  have _ := z0
  have _ := z3
  have _ := z4
  have _ := z5
  have _ := z6
  have _ := z7
  have _ := z8
  have _ := z9
  have _ := z10
  have _ := z11
  have _ := z12
  have _ := b1
  have _ := b2
  have _ := f
  have _ := hf
  have _ := hb1
  have _ := hb2
  have _ := eb1b2
  refine wp_region_list (show wpList _ so2Ops _ [so2Op0, so2Op1, so2Op2, so2Op3, so2Op4, so2Op5] _ _ from ?_)
  have hS : Kp [b1, b2] u u := Kp.refl _ u
  have Bb1 := hb1
  have Bb2 := hb2
  refine wpList_plain rfl (fun K hK => ?_)
  refine wp_val (.pointer (some ⟨b1, 31, none⟩)) (by kernel_rfl) ?_
  have hS' := hS
  refine hK _ _ ?_
  clear hK K
  have qBb1 : Blk u b1 (vals .u8 32 f) 22 := Bb1
  have qBb2 : Blk u b2 (vals .u8 32 (fun _ => 0)) 22 := Bb2
  clear hS Bb1 Bb2
  have Bb1 := qBb1
  have Bb2 := qBb2
  have hS := hS'
  clear hS' qBb1 qBb2
  refine wpList_fr (a' := { tmps := List.toArray (z0 :: (.pointer (some ⟨b1, 0, none⟩)) :: (.pointer (some ⟨b2, 0, none⟩)) :: z3 :: z4 :: z5 :: z6 :: (.pointer (some ⟨b1, 31, none⟩)) :: z8 :: z9 :: z10 :: z11 :: z12 :: []), defers := [] }) (by kernel_rfl) ?_
  refine wpList_plain rfl (fun K hK => ?_)
  refine ld8 _ rfl b1 31 (by kernel_rfl) f Bb1 (by omega) ?_
  have hS' := hS
  refine hK _ _ ?_
  clear hK K
  have qBb1 : Blk u b1 (vals .u8 32 f) 22 := Bb1
  have qBb2 : Blk u b2 (vals .u8 32 (fun _ => 0)) 22 := Bb2
  clear hS Bb1 Bb2
  have Bb1 := qBb1
  have Bb2 := qBb2
  have hS := hS'
  clear hS' qBb1 qBb2
  refine wpList_fr (a' := { tmps := List.toArray (z0 :: (.pointer (some ⟨b1, 0, none⟩)) :: (.pointer (some ⟨b2, 0, none⟩)) :: z3 :: z4 :: z5 :: z6 :: (.pointer (some ⟨b1, 31, none⟩)) :: (.int .u8 ((f 31 : Nat) : Int)) :: z9 :: z10 :: z11 :: z12 :: []), defers := [] }) (by kernel_rfl) ?_
  refine wpList_plain rfl (fun K hK => ?_)
  refine wp_val (.int .u8 ((f 31 % 128 : Nat) : Int)) (by rw [← and127 (f 31) (hf 31)]; kernel_rfl) ?_
  have hS' := hS
  refine hK _ _ ?_
  clear hK K
  have qBb1 : Blk u b1 (vals .u8 32 f) 22 := Bb1
  have qBb2 : Blk u b2 (vals .u8 32 (fun _ => 0)) 22 := Bb2
  clear hS Bb1 Bb2
  have Bb1 := qBb1
  have Bb2 := qBb2
  have hS := hS'
  clear hS' qBb1 qBb2
  refine wpList_fr (a' := { tmps := List.toArray (z0 :: (.pointer (some ⟨b1, 0, none⟩)) :: (.pointer (some ⟨b2, 0, none⟩)) :: z3 :: z4 :: z5 :: z6 :: (.pointer (some ⟨b1, 31, none⟩)) :: (.int .u8 ((f 31 : Nat) : Int)) :: (.int .u8 ((f 31 % 128 : Nat) : Int)) :: z10 :: z11 :: z12 :: []), defers := [] }) (by kernel_rfl) ?_
  refine wpList_plain rfl (fun K hK => ?_)
  refine wp_val (.int .u8 ((f 31 % 64 + 64 : Nat) : Int)) (by rw [← or64 (f 31) (hf 31)]; kernel_rfl) ?_
  have hS' := hS
  refine hK _ _ ?_
  clear hK K
  have qBb1 : Blk u b1 (vals .u8 32 f) 22 := Bb1
  have qBb2 : Blk u b2 (vals .u8 32 (fun _ => 0)) 22 := Bb2
  clear hS Bb1 Bb2
  have Bb1 := qBb1
  have Bb2 := qBb2
  have hS := hS'
  clear hS' qBb1 qBb2
  refine wpList_fr (a' := { tmps := List.toArray (z0 :: (.pointer (some ⟨b1, 0, none⟩)) :: (.pointer (some ⟨b2, 0, none⟩)) :: z3 :: z4 :: z5 :: z6 :: (.pointer (some ⟨b1, 31, none⟩)) :: (.int .u8 ((f 31 : Nat) : Int)) :: (.int .u8 ((f 31 % 128 : Nat) : Int)) :: (.int .u8 ((f 31 % 64 + 64 : Nat) : Int)) :: z11 :: z12 :: []), defers := [] }) (by kernel_rfl) ?_
  refine wpList_plain rfl (fun K hK => ?_)
  refine wp_val (.pointer (some ⟨b1, 31, none⟩)) (by kernel_rfl) ?_
  have hS' := hS
  refine hK _ _ ?_
  clear hK K
  have qBb1 : Blk u b1 (vals .u8 32 f) 22 := Bb1
  have qBb2 : Blk u b2 (vals .u8 32 (fun _ => 0)) 22 := Bb2
  clear hS Bb1 Bb2
  have Bb1 := qBb1
  have Bb2 := qBb2
  have hS := hS'
  clear hS' qBb1 qBb2
  refine wpList_fr (a' := { tmps := List.toArray (z0 :: (.pointer (some ⟨b1, 0, none⟩)) :: (.pointer (some ⟨b2, 0, none⟩)) :: z3 :: z4 :: z5 :: z6 :: (.pointer (some ⟨b1, 31, none⟩)) :: (.int .u8 ((f 31 : Nat) : Int)) :: (.int .u8 ((f 31 % 128 : Nat) : Int)) :: (.int .u8 ((f 31 % 64 + 64 : Nat) : Int)) :: (.pointer (some ⟨b1, 31, none⟩)) :: z12 :: []), defers := [] }) (by kernel_rfl) ?_
  refine wpList_plain rfl (fun K hK => ?_)
  refine st8 _ _ rfl b1 31 (by kernel_rfl) f (f 31 % 64 + 64) (by kernel_rfl) Bb1 (by omega) ?_
  intro w5 Bq hkw
  have hS' := hS.trans hkw (Z := [b1, b2]) (fun _ h => h) (by simp)
  refine hK _ _ ?_
  clear hK K
  have qBb1 : Blk w5 b1 (vals .u8 32 (fun j => if j = 31 then f 31 % 64 + 64 else f j)) 22 := Bq
  have qBb2 : Blk w5 b2 (vals .u8 32 (fun _ => 0)) 22 := (hkw.keep _ _ _ (not_one (Ne.symm eb1b2)) Bb2)
  clear hS Bb1 Bb2
  have Bb1 := qBb1
  have Bb2 := qBb2
  have hS := hS'
  clear hS' qBb1 qBb2
  refine wpList_fr (a' := { tmps := List.toArray (z0 :: (.pointer (some ⟨b1, 0, none⟩)) :: (.pointer (some ⟨b2, 0, none⟩)) :: z3 :: z4 :: z5 :: z6 :: (.pointer (some ⟨b1, 31, none⟩)) :: (.int .u8 ((f 31 : Nat) : Int)) :: (.int .u8 ((f 31 % 128 : Nat) : Int)) :: (.int .u8 ((f 31 % 64 + 64 : Nat) : Int)) :: (.pointer (some ⟨b1, 31, none⟩)) :: z12 :: []), defers := [] }) (by kernel_rfl) ?_
  refine wpList_nil ?_
  exact H  w5 hS Bb1 Bb2
def so3Op0 : Oper := { dst := some 12, op := Op.load 22 (Operand.tmp 1), type := 22, pos := "ladder.go:43", after := #[], guard := none }
def so3Op1 : Oper := { dst := none, op := Op.store 22 (Operand.tmp 2) (Operand.tmp 12), type := 0, pos := "ladder.go:43", after := #[{ on := 0, ground := Ground.data }, { on := 0, ground := Ground.phase }], guard := none }
def so3Ops : Array Oper := #[so3Op0, so3Op1]
set_option maxRecDepth 100000 in
set_option maxHeartbeats 2000000 in
theorem so3_region (Q : Exit → Act → World → Prop) (hQ : ∀ c a w n v, Q (.panic c) (a.put (some n) v) w → Q (.panic c) a w) (u : World) (z0 z3 z4 z5 z6 z7 z8 z9 z10 z11 z12 : Value) (b1 b2 : Nat) (f : Nat → Nat) (hb1 : Blk u b1 (vals .u8 32 f) 22) (nb1 : b1 ∉ ([b2] : List Nat)) (hb2 : Blk u b2 (vals .u8 32 (fun _ => 0)) 22) (H : ∀ (w : World), Kp [b2] u w → Blk w b2 (vals .u8 32 f) 22 → Q .normal { tmps := List.toArray (z0 :: (.pointer (some ⟨b1, 0, none⟩)) :: (.pointer (some ⟨b2, 0, none⟩)) :: z3 :: z4 :: z5 :: z6 :: z7 :: z8 :: z9 :: z10 :: z11 :: (.agg (vals .u8 32 f)) :: []), defers := [] } w) :
    (Code.region 3 so3Ops false).wp Try.prog Q { tmps := List.toArray (z0 :: (.pointer (some ⟨b1, 0, none⟩)) :: (.pointer (some ⟨b2, 0, none⟩)) :: z3 :: z4 :: z5 :: z6 :: z7 :: z8 :: z9 :: z10 :: z11 :: z12 :: []), defers := [] } u := by
  have _ := hQ
  have _ := u
  have _ := z0
  have _ := z3
  have _ := z4
  have _ := z5
  have _ := z6
  have _ := z7
  have _ := z8
  have _ := z9
  have _ := z10
  have _ := z11
  have _ := z12
  have _ := b1
  have _ := b2
  have _ := f
  have _ := hb1
  have _ := nb1
  have _ := hb2
  refine wp_region_list (show wpList _ so3Ops _ [so3Op0, so3Op1] _ _ from ?_)
  have hS : Kp [b2] u u := Kp.refl _ u
  have Bb2 := hb2
  refine wpList_plain rfl (fun K hK => ?_)
  refine wp_load_row 22 _ rfl b1 (by kernel_rfl) 22 _ (0, 0) _ (hS.keep _ _ _ nb1 hb1) Try.underlying22 rfl (size_by _) ?_
  have hS' := hS
  refine hK _ _ ?_
  clear hK K
  have qBb2 : Blk u b2 (vals .u8 32 (fun _ => 0)) 22 := Bb2
  clear hS Bb2
  have Bb2 := qBb2
  have hS := hS'
  clear hS' qBb2
  refine wpList_fr (a' := { tmps := List.toArray (z0 :: (.pointer (some ⟨b1, 0, none⟩)) :: (.pointer (some ⟨b2, 0, none⟩)) :: z3 :: z4 :: z5 :: z6 :: z7 :: z8 :: z9 :: z10 :: z11 :: (.agg (vals .u8 32 f)) :: []), defers := [] }) (by kernel_rfl) ?_
  refine wpList_plain rfl (fun K hK => ?_)
  refine wp_store_row 22 _ _ rfl b2 (vals .u8 32 f) (by kernel_rfl) (by kernel_rfl) 22 _ Bb2 (size_by _) (by rw [vals_size, vals_size]) (vals_one _ _ _) ?_
  have hS' := hS.old (x := b2) (by simp) (vals .u8 32 f)
  refine hK _ _ ?_
  clear hK K
  have qBb2 : Blk (u.setRow b2 (vals .u8 32 f)) b2 (vals .u8 32 f) 22 := (Bb2.row (vals .u8 32 f))
  clear hS Bb2
  have Bb2 := qBb2
  have hS := hS'
  clear hS' qBb2
  refine wpList_fr (a' := { tmps := List.toArray (z0 :: (.pointer (some ⟨b1, 0, none⟩)) :: (.pointer (some ⟨b2, 0, none⟩)) :: z3 :: z4 :: z5 :: z6 :: z7 :: z8 :: z9 :: z10 :: z11 :: (.agg (vals .u8 32 f)) :: []), defers := [] }) (by kernel_rfl) ?_
  generalize (u.setRow b2 (vals .u8 32 f)) = w1 at *
  refine wpList_nil ?_
  exact H  w1 hS Bb2
set_option maxHeartbeats 1000000 in
theorem scalarOf_c (f : Nat → Nat) (w : World) (hf : ∀ i, f i < 256) : Ret 16 #[.agg (vals .u8 32 f)] w (.agg (vals .u8 32 (clb f))) := by
  go_enter Try.func16, Try.ntmps16
  go_upto_region 0 with (fail)
  refine so0_region _ (fun _ _ _ _ _ h => h) w _ _ _ f ?_
  intro n1 n2 w1 hK gn1 Bn1 gn2 Bn2 en1n2
  have hL := hK.below w _ (Nat.le_refl _) (Below.refl _ w)
  go_upto_region 1 with (fail)
  refine so1_region _ (fun _ _ _ _ _ h => h) w1 _ _ _ _ _ _ n1 n2 f hf Bn1 Bn2 en1n2 ?_
  intro w2 hK2 C1 C2
  have hL2 := hK2.low _ _ (by intro x hx; simp at hx; omega) hK.size hL
  have s2 := Nat.le_trans hK.size hK2.size
  go_upto_region 2 with (fail)
  refine so2_region _ (fun _ _ _ _ _ h => h) w2 _ _ _ _ _ _ _ _ _ _ _ n1 n2 (fun j => if j = 0 then f 0 / 8 * 8 else f j) ?_ C1 C2 en1n2 ?_
  · intro i; have := hf 0; have := hf i; split <;> omega
  intro w3 hK3 D1 D2
  have D1' := D1.cast (vals_congr .u8 32 _ (clb f) fun j _ => by unfold clb; by_cases h : j = 0 <;> by_cases h2 : j = 31 <;> simp [h, h2])
  have hL3 := hK3.low _ _ (by intro x hx; simp at hx; omega) s2 hL2
  have s3 := Nat.le_trans s2 hK3.size
  go_upto_region 3 with (fail)
  refine so3_region _ (fun _ _ _ _ _ h => h) w3 _ _ _ _ _ _ _ _ _ _ _ n1 n2 (clb f) D1' (not_one en1n2) D2 ?_
  intro w4 hK4 E2
  go_wp2_with fail
  refine bodyPost_ret (v := .agg (vals .u8 32 (clb f))) (results_cell_row Try.results16 _ _ n2 22 _ (0, 0) _ rfl E2 Try.underlying22 rfl (size_by _)) rfl ⟨rfl, ?_⟩
  exact hK4.low _ _ (by intro x hx; simp at hx; omega) s3 hL3
def co0Op0 : Oper := { dst := some 1, op := Op.box 22 (Operand.tmp 0), type := 0, pos := "ladder.go:47", after := #[], guard := none }
def co0Op1 : Oper := { dst := some 2, op := Op.alloc 32, type := 0, pos := "ladder.go:47", after := #[], guard := none }
def co0Ops : Array Oper := #[co0Op0, co0Op1]
set_option maxRecDepth 100000 in
set_option maxHeartbeats 2000000 in
theorem co0_region (Q : Exit → Act → World → Prop) (hQ : ∀ c a w n v, Q (.panic c) (a.put (some n) v) w → Q (.panic c) a w) (u : World) (z1 z2 : Value) (zz : List Value) (f : Nat → Nat) (H : ∀ (n1 : Nat) (n2 : Nat) (w : World), Kp [] u w → u.heap.size ≤ n1 → Blk w n1 (vals .u8 32 f) 22 → u.heap.size ≤ n2 → Blk w n2 (arr 4 (fun _ => 0)) 32 → n1 ≠ n2 → Q .normal { tmps := List.toArray ((.agg (vals .u8 32 f)) :: (.pointer (some ⟨n1, 0, none⟩)) :: (.pointer (some ⟨n2, 0, none⟩)) :: zz), defers := [] } w) :
    (Code.region 0 co0Ops false).wp Try.prog Q { tmps := List.toArray ((.agg (vals .u8 32 f)) :: z1 :: z2 :: zz), defers := [] } u := by
  have _ := hQ
  have _ := u
  have _ := z1
  have _ := z2
  have _ := zz
  have _ := f
  refine wp_region_list (show wpList _ co0Ops _ [co0Op0, co0Op1] _ _ from ?_)
  have hS : Kp [] u u := Kp.refl _ u
  refine wpList_plain rfl (fun K hK => ?_)
  refine wp_new _ 22 (box_by _ _ _ _ f rfl (by kernel_rfl)) ?_
  intro n1 w0 eb Bn1 hbw
  have hS' := hS.call hbw
  refine hK _ _ ?_
  clear hK K
  have qgn1 : u.heap.size ≤ n1 := (by rw [eb]; exact hS.size)
  have qBn1 : Blk w0 n1 (vals .u8 32 f) 22 := Bn1
  clear hS
  have gn1 := qgn1
  have Bn1 := qBn1
  have hS := hS'
  clear hS' qgn1 qBn1
  refine wpList_fr (a' := { tmps := List.toArray ((.agg (vals .u8 32 f)) :: (.pointer (some ⟨n1, 0, none⟩)) :: z2 :: zz), defers := [] }) (by kernel_rfl) ?_
  refine wpList_plain rfl (fun K hK => ?_)
  refine wp_new _ 32 (alloc_fe _ _ _ rfl) ?_
  intro n2 w1 eb Bn2 hbw
  have hS' := hS.call hbw
  refine hK _ _ ?_
  clear hK K
  have qgn1 : u.heap.size ≤ n1 := gn1
  have qBn1 : Blk w1 n1 (vals .u8 32 f) 22 := (Bn1.call hbw)
  have qgn2 : u.heap.size ≤ n2 := (by rw [eb]; exact hS.size)
  have qBn2 : Blk w1 n2 (arr 4 (fun _ => 0)) 32 := Bn2
  have qen1n2 : n1 ≠ n2 := (by rw [eb]; exact Nat.ne_of_lt Bn1.lt)
  clear hS gn1 Bn1
  have gn1 := qgn1
  have Bn1 := qBn1
  have gn2 := qgn2
  have Bn2 := qBn2
  have en1n2 := qen1n2
  have hS := hS'
  clear hS' qgn1 qBn1 qgn2 qBn2 qen1n2
  refine wpList_fr (a' := { tmps := List.toArray ((.agg (vals .u8 32 f)) :: (.pointer (some ⟨n1, 0, none⟩)) :: (.pointer (some ⟨n2, 0, none⟩)) :: zz), defers := [] }) (by kernel_rfl) ?_
  refine wpList_nil ?_
  exact H n1 n2 w1 hS gn1 Bn1 gn2 Bn2 en1n2
def co1Op0 : Oper := { dst := some 3, op := Op.indexAddr 22 (Operand.tmp 1) (Operand.const (Value.int IntKind.i64 31)), type := 0, pos := "ladder.go:48", after := #[], guard := none }
def co1Op1 : Oper := { dst := some 4, op := Op.load 5 (Operand.tmp 3), type := 5, pos := "ladder.go:48", after := #[{ on := 0, ground := Ground.data }], guard := none }
def co1Op2 : Oper := { dst := some 5, op := Op.binOp BinOp.and 5 (Operand.tmp 4) (Operand.const (Value.int IntKind.u8 127)) 5, type := 5, pos := "ladder.go:48", after := #[{ on := 1, ground := Ground.data }], guard := none }
def co1Op3 : Oper := { dst := some 6, op := Op.indexAddr 22 (Operand.tmp 1) (Operand.const (Value.int IntKind.i64 31)), type := 0, pos := "ladder.go:48", after := #[{ on := 0, ground := Ground.phase }, { on := 1, ground := Ground.phase }, { on := 2, ground := Ground.phase }], guard := none }
def co1Op4 : Oper := { dst := none, op := Op.store 5 (Operand.tmp 6) (Operand.tmp 5), type := 0, pos := "ladder.go:48", after := #[{ on := 3, ground := Ground.data }, { on := 2, ground := Ground.data }, { on := 0, ground := Ground.phase }, { on := 1, ground := Ground.phase }, { on := 2, ground := Ground.phase }], guard := none }
def co1Ops : Array Oper := #[co1Op0, co1Op1, co1Op2, co1Op3, co1Op4]
set_option maxRecDepth 100000 in
set_option maxHeartbeats 2000000 in
theorem co1_region (Q : Exit → Act → World → Prop) (hQ : ∀ c a w n v, Q (.panic c) (a.put (some n) v) w → Q (.panic c) a w) (u : World) (z0 z3 z4 z5 z6 z7 z8 : Value) (b1 b2 : Nat) (f : Nat → Nat) (hf : ∀ i, f i < 256) (hb1 : Blk u b1 (vals .u8 32 f) 22) (hb2 : Blk u b2 (arr 4 (fun _ => 0)) 32) (eb1b2 : b1 ≠ b2) (H : ∀ (w : World), Kp [b1, b2] u w → Blk w b1 (vals .u8 32 (fun j => if j = 31 then f 31 % 128 else f j)) 22 → Blk w b2 (arr 4 (fun _ => 0)) 32 → Q .normal { tmps := List.toArray (z0 :: (.pointer (some ⟨b1, 0, none⟩)) :: (.pointer (some ⟨b2, 0, none⟩)) :: (.pointer (some ⟨b1, 31, none⟩)) :: (.int .u8 ((f 31 : Nat) : Int)) :: (.int .u8 ((f 31 % 128 : Nat) : Int)) :: (.pointer (some ⟨b1, 31, none⟩)) :: z7 :: z8 :: []), defers := [] } w) :
    (Code.region 1 co1Ops false).wp Try.prog Q { tmps := List.toArray (z0 :: (.pointer (some ⟨b1, 0, none⟩)) :: (.pointer (some ⟨b2, 0, none⟩)) :: z3 :: z4 :: z5 :: z6 :: z7 :: z8 :: []), defers := [] } u := by
  have _ := hQ
  have _ := u
  have _ := z0
  have _ := z3
  have _ := z4
  have _ := z5
  have _ := z6
  have _ := z7
  have _ := z8
  have _ := b1
  have _ := b2
  have _ := f
  have _ := hf
  have _ := hb1
  have _ := hb2
  have _ := eb1b2
  refine wp_region_list (show wpList _ co1Ops _ [co1Op0, co1Op1, co1Op2, co1Op3, co1Op4] _ _ from ?_)
  have hS : Kp [b1, b2] u u := Kp.refl _ u
  have Bb1 := hb1
  have Bb2 := hb2
  refine wpList_plain rfl (fun K hK => ?_)
  refine wp_val (.pointer (some ⟨b1, 31, none⟩)) (by kernel_rfl) ?_
  have hS' := hS
  refine hK _ _ ?_
  clear hK K
  have qBb1 : Blk u b1 (vals .u8 32 f) 22 := Bb1
  have qBb2 : Blk u b2 (arr 4 (fun _ => 0)) 32 := Bb2
  clear hS Bb1 Bb2
  have Bb1 := qBb1
  have Bb2 := qBb2
  have hS := hS'
  clear hS' qBb1 qBb2
  refine wpList_fr (a' := { tmps := List.toArray (z0 :: (.pointer (some ⟨b1, 0, none⟩)) :: (.pointer (some ⟨b2, 0, none⟩)) :: (.pointer (some ⟨b1, 31, none⟩)) :: z4 :: z5 :: z6 :: z7 :: z8 :: []), defers := [] }) (by kernel_rfl) ?_
  refine wpList_plain rfl (fun K hK => ?_)
  refine ld8 _ rfl b1 31 (by kernel_rfl) f Bb1 (by omega) ?_
  have hS' := hS
  refine hK _ _ ?_
  clear hK K
  have qBb1 : Blk u b1 (vals .u8 32 f) 22 := Bb1
  have qBb2 : Blk u b2 (arr 4 (fun _ => 0)) 32 := Bb2
  clear hS Bb1 Bb2
  have Bb1 := qBb1
  have Bb2 := qBb2
  have hS := hS'
  clear hS' qBb1 qBb2
  refine wpList_fr (a' := { tmps := List.toArray (z0 :: (.pointer (some ⟨b1, 0, none⟩)) :: (.pointer (some ⟨b2, 0, none⟩)) :: (.pointer (some ⟨b1, 31, none⟩)) :: (.int .u8 ((f 31 : Nat) : Int)) :: z5 :: z6 :: z7 :: z8 :: []), defers := [] }) (by kernel_rfl) ?_
  refine wpList_plain rfl (fun K hK => ?_)
  refine wp_val (.int .u8 ((f 31 % 128 : Nat) : Int)) (by rw [← and127 (f 31) (hf 31)]; kernel_rfl) ?_
  have hS' := hS
  refine hK _ _ ?_
  clear hK K
  have qBb1 : Blk u b1 (vals .u8 32 f) 22 := Bb1
  have qBb2 : Blk u b2 (arr 4 (fun _ => 0)) 32 := Bb2
  clear hS Bb1 Bb2
  have Bb1 := qBb1
  have Bb2 := qBb2
  have hS := hS'
  clear hS' qBb1 qBb2
  refine wpList_fr (a' := { tmps := List.toArray (z0 :: (.pointer (some ⟨b1, 0, none⟩)) :: (.pointer (some ⟨b2, 0, none⟩)) :: (.pointer (some ⟨b1, 31, none⟩)) :: (.int .u8 ((f 31 : Nat) : Int)) :: (.int .u8 ((f 31 % 128 : Nat) : Int)) :: z6 :: z7 :: z8 :: []), defers := [] }) (by kernel_rfl) ?_
  refine wpList_plain rfl (fun K hK => ?_)
  refine wp_val (.pointer (some ⟨b1, 31, none⟩)) (by kernel_rfl) ?_
  have hS' := hS
  refine hK _ _ ?_
  clear hK K
  have qBb1 : Blk u b1 (vals .u8 32 f) 22 := Bb1
  have qBb2 : Blk u b2 (arr 4 (fun _ => 0)) 32 := Bb2
  clear hS Bb1 Bb2
  have Bb1 := qBb1
  have Bb2 := qBb2
  have hS := hS'
  clear hS' qBb1 qBb2
  refine wpList_fr (a' := { tmps := List.toArray (z0 :: (.pointer (some ⟨b1, 0, none⟩)) :: (.pointer (some ⟨b2, 0, none⟩)) :: (.pointer (some ⟨b1, 31, none⟩)) :: (.int .u8 ((f 31 : Nat) : Int)) :: (.int .u8 ((f 31 % 128 : Nat) : Int)) :: (.pointer (some ⟨b1, 31, none⟩)) :: z7 :: z8 :: []), defers := [] }) (by kernel_rfl) ?_
  refine wpList_plain rfl (fun K hK => ?_)
  refine st8 _ _ rfl b1 31 (by kernel_rfl) f (f 31 % 128) (by kernel_rfl) Bb1 (by omega) ?_
  intro w4 Bq hkw
  have hS' := hS.trans hkw (Z := [b1, b2]) (fun _ h => h) (by simp)
  refine hK _ _ ?_
  clear hK K
  have qBb1 : Blk w4 b1 (vals .u8 32 (fun j => if j = 31 then f 31 % 128 else f j)) 22 := Bq
  have qBb2 : Blk w4 b2 (arr 4 (fun _ => 0)) 32 := (hkw.keep _ _ _ (not_one (Ne.symm eb1b2)) Bb2)
  clear hS Bb1 Bb2
  have Bb1 := qBb1
  have Bb2 := qBb2
  have hS := hS'
  clear hS' qBb1 qBb2
  refine wpList_fr (a' := { tmps := List.toArray (z0 :: (.pointer (some ⟨b1, 0, none⟩)) :: (.pointer (some ⟨b2, 0, none⟩)) :: (.pointer (some ⟨b1, 31, none⟩)) :: (.int .u8 ((f 31 : Nat) : Int)) :: (.int .u8 ((f 31 % 128 : Nat) : Int)) :: (.pointer (some ⟨b1, 31, none⟩)) :: z7 :: z8 :: []), defers := [] }) (by kernel_rfl) ?_
  refine wpList_nil ?_
  exact H  w4 hS Bb1 Bb2
def co2Op0 : Oper := { dst := some 7, op := Op.load 22 (Operand.tmp 1), type := 22, pos := "ladder.go:49", after := #[], guard := none }
def co2Op1 : Oper := { dst := some 8, op := Op.call { callee := Callee.value (Operand.func 13), args := #[Operand.tmp 7], argTypes := #[22] }, type := 32, pos := "ladder.go:49", after := #[{ on := 0, ground := Ground.data }], guard := none }
def co2Op2 : Oper := { dst := none, op := Op.store 32 (Operand.tmp 2) (Operand.tmp 8), type := 0, pos := "ladder.go:49", after := #[{ on := 1, ground := Ground.data }, { on := 1, ground := Ground.chain }, { on := 0, ground := Ground.phase }, { on := 1, ground := Ground.phase }], guard := none }
def co2Ops : Array Oper := #[co2Op0, co2Op1, co2Op2]
set_option maxRecDepth 100000 in
set_option maxHeartbeats 2000000 in
theorem co2_region (Q : Exit → Act → World → Prop) (hQ : ∀ c a w n v, Q (.panic c) (a.put (some n) v) w → Q (.panic c) a w) (u : World) (z0 z3 z4 z5 z6 z7 z8 : Value) (b1 b2 : Nat) (f : Nat → Nat) (hf : ∀ i, f i < 256) (hb1 : Blk u b1 (vals .u8 32 f) 22) (nb1 : b1 ∉ ([b2] : List Nat)) (hb2 : Blk u b2 (arr 4 (fun _ => 0)) 32) (H : ∀ (w : World), Kp [b2] u w → Blk w b2 (arr 4 (limb (nb f 32 % pP))) 32 → Q .normal { tmps := List.toArray (z0 :: (.pointer (some ⟨b1, 0, none⟩)) :: (.pointer (some ⟨b2, 0, none⟩)) :: z3 :: z4 :: z5 :: z6 :: (.agg (vals .u8 32 f)) :: (.agg (arr 4 (limb (nb f 32 % pP)))) :: []), defers := [] } w) :
    (Code.region 2 co2Ops false).wp Try.prog Q { tmps := List.toArray (z0 :: (.pointer (some ⟨b1, 0, none⟩)) :: (.pointer (some ⟨b2, 0, none⟩)) :: z3 :: z4 :: z5 :: z6 :: z7 :: z8 :: []), defers := [] } u := by
  have _ := hQ
  have _ := u
  have _ := z0
  have _ := z3
  have _ := z4
  have _ := z5
  have _ := z6
  have _ := z7
  have _ := z8
  have _ := b1
  have _ := b2
  have _ := f
  have _ := hf
  have _ := hb1
  have _ := nb1
  have _ := hb2
  refine wp_region_list (show wpList _ co2Ops _ [co2Op0, co2Op1, co2Op2] _ _ from ?_)
  have hS : Kp [b2] u u := Kp.refl _ u
  have Bb2 := hb2
  refine wpList_plain rfl (fun K hK => ?_)
  refine wp_load_row 22 _ rfl b1 (by kernel_rfl) 22 _ (0, 0) _ (hS.keep _ _ _ nb1 hb1) Try.underlying22 rfl (size_by _) ?_
  have hS' := hS
  refine hK _ _ ?_
  clear hK K
  have qBb2 : Blk u b2 (arr 4 (fun _ => 0)) 32 := Bb2
  clear hS Bb2
  have Bb2 := qBb2
  have hS := hS'
  clear hS' qBb2
  refine wpList_fr (a' := { tmps := List.toArray (z0 :: (.pointer (some ⟨b1, 0, none⟩)) :: (.pointer (some ⟨b2, 0, none⟩)) :: z3 :: z4 :: z5 :: z6 :: (.agg (vals .u8 32 f)) :: z8 :: []), defers := [] }) (by kernel_rfl) ?_
  refine wpList_plain rfl (fun K hK => ?_)
  refine wp_call_val 13 #[.agg (vals .u8 32 f)] (by kernel_rfl) (.agg (arr 4 (limb (nb f 32 % pP)))) (load_c f _ hf) ?_
  intro w1 hbw
  have hS' := hS.call hbw
  refine hK _ _ ?_
  clear hK K
  have qBb2 : Blk w1 b2 (arr 4 (fun _ => 0)) 32 := (Bb2.call hbw)
  clear hS Bb2
  have Bb2 := qBb2
  have hS := hS'
  clear hS' qBb2
  refine wpList_fr (a' := { tmps := List.toArray (z0 :: (.pointer (some ⟨b1, 0, none⟩)) :: (.pointer (some ⟨b2, 0, none⟩)) :: z3 :: z4 :: z5 :: z6 :: (.agg (vals .u8 32 f)) :: (.agg (arr 4 (limb (nb f 32 % pP)))) :: []), defers := [] }) (by kernel_rfl) ?_
  refine wpList_plain rfl (fun K hK => ?_)
  refine wp_store_row 32 _ _ rfl b2 (arr 4 (limb (nb f 32 % pP))) (by kernel_rfl) (by kernel_rfl) 32 _ Bb2 (size_fe _) (by rw [arr_size, arr_size]) (one_fe _) ?_
  have hS' := hS.old (x := b2) (by simp) (arr 4 (limb (nb f 32 % pP)))
  refine hK _ _ ?_
  clear hK K
  have qBb2 : Blk (w1.setRow b2 (arr 4 (limb (nb f 32 % pP)))) b2 (arr 4 (limb (nb f 32 % pP))) 32 := (Bb2.row (arr 4 (limb (nb f 32 % pP))))
  clear hS Bb2
  have Bb2 := qBb2
  have hS := hS'
  clear hS' qBb2
  refine wpList_fr (a' := { tmps := List.toArray (z0 :: (.pointer (some ⟨b1, 0, none⟩)) :: (.pointer (some ⟨b2, 0, none⟩)) :: z3 :: z4 :: z5 :: z6 :: (.agg (vals .u8 32 f)) :: (.agg (arr 4 (limb (nb f 32 % pP)))) :: []), defers := [] }) (by kernel_rfl) ?_
  generalize (w1.setRow b2 (arr 4 (limb (nb f 32 % pP)))) = w2 at *
  refine wpList_nil ?_
  exact H  w2 hS Bb2
set_option maxHeartbeats 1000000 in
theorem coordinate_c (f : Nat → Nat) (w : World) (hf : ∀ i, f i < 256) : Ret 17 #[.agg (vals .u8 32 f)] w (.agg (arr 4 (limb (co f)))) := by
  go_enter Try.func17, Try.ntmps17
  go_upto_region 0 with (fail)
  refine co0_region _ (fun _ _ _ _ _ h => h) w _ _ _ f ?_
  intro n1 n2 w1 hK gn1 Bn1 gn2 Bn2 en1n2
  have hL := hK.below w _ (Nat.le_refl _) (Below.refl _ w)
  go_upto_region 1 with (fail)
  refine co1_region _ (fun _ _ _ _ _ h => h) w1 _ _ _ _ _ _ _ n1 n2 f hf Bn1 Bn2 en1n2 ?_
  intro w2 hK2 C1 C2
  have C1' := C1.cast (vals_congr .u8 32 _ (cob f) fun j _ => by unfold cob; by_cases h2 : j = 31 <;> simp [h2])
  have hL2 := hK2.low _ _ (by intro x hx; simp at hx; omega) hK.size hL
  have s2 := Nat.le_trans hK.size hK2.size
  go_upto_region 2 with (fail)
  refine co2_region _ (fun _ _ _ _ _ h => h) w2 _ _ _ _ _ _ _ n1 n2 (cob f) (cob_lt f hf) C1' (not_one en1n2) C2 ?_
  intro w3 hK3 D2
  go_wp2_with fail
  refine bodyPost_ret (v := .agg (arr 4 (limb (co f)))) (results_cell_row Try.results17 _ _ n2 32 _ (0, 0) _ rfl D2 Try.underlying32 rfl (size_fe _)) rfl ⟨rfl, ?_⟩
  exact hK3.low _ _ (by intro x hx; simp at hx; omega) s2 hL2
def bo0Op0 : Oper := { dst := some 2, op := Op.box 22 (Operand.tmp 0), type := 0, pos := "ladder.go:53", after := #[], guard := none }
def bo0Op1 : Oper := { dst := some 4, op := Op.assign (Operand.const (Value.bool false)), type := 4, pos := "ladder.go:53", after := #[], guard := none }
def bo0Ops : Array Oper := #[bo0Op0, bo0Op1]
set_option maxRecDepth 100000 in
set_option maxHeartbeats 2000000 in
theorem bo0_region (Q : Exit → Act → World → Prop) (hQ : ∀ c a w n v, Q (.panic c) (a.put (some n) v) w → Q (.panic c) a w) (u : World) (z2 z3 z4 : Value) (zz : List Value) (f : Nat → Nat) (i : Nat) (H : ∀ (n2 : Nat) (w : World), Kp [] u w → u.heap.size ≤ n2 → Blk w n2 (vals .u8 32 f) 22 → Q .normal { tmps := List.toArray ((.agg (vals .u8 32 f)) :: (.int .i64 ((i : Nat) : Int)) :: (.pointer (some ⟨n2, 0, none⟩)) :: z3 :: (.bool false) :: zz), defers := [] } w) :
    (Code.region 0 bo0Ops false).wp Try.prog Q { tmps := List.toArray ((.agg (vals .u8 32 f)) :: (.int .i64 ((i : Nat) : Int)) :: z2 :: z3 :: z4 :: zz), defers := [] } u := by
  have _ := hQ
  have _ := u
  have _ := z2
  have _ := z3
  have _ := z4
  have _ := zz
  have _ := f
  have _ := i
  refine wp_region_list (show wpList _ bo0Ops _ [bo0Op0, bo0Op1] _ _ from ?_)
  have hS : Kp [] u u := Kp.refl _ u
  refine wpList_plain rfl (fun K hK => ?_)
  refine wp_new _ 22 (box_by _ _ _ _ f rfl (by kernel_rfl)) ?_
  intro n2 w0 eb Bn2 hbw
  have hS' := hS.call hbw
  refine hK _ _ ?_
  clear hK K
  have qgn2 : u.heap.size ≤ n2 := (by rw [eb]; exact hS.size)
  have qBn2 : Blk w0 n2 (vals .u8 32 f) 22 := Bn2
  clear hS
  have gn2 := qgn2
  have Bn2 := qBn2
  have hS := hS'
  clear hS' qgn2 qBn2
  refine wpList_fr (a' := { tmps := List.toArray ((.agg (vals .u8 32 f)) :: (.int .i64 ((i : Nat) : Int)) :: (.pointer (some ⟨n2, 0, none⟩)) :: z3 :: z4 :: zz), defers := [] }) (by kernel_rfl) ?_
  refine wpList_plain rfl (fun K hK => ?_)
  refine wp_val (.bool false) (by kernel_rfl) ?_
  have hS' := hS
  refine hK _ _ ?_
  clear hK K
  have qgn2 : u.heap.size ≤ n2 := gn2
  have qBn2 : Blk w0 n2 (vals .u8 32 f) 22 := Bn2
  clear hS gn2 Bn2
  have gn2 := qgn2
  have Bn2 := qBn2
  have hS := hS'
  clear hS' qgn2 qBn2
  refine wpList_fr (a' := { tmps := List.toArray ((.agg (vals .u8 32 f)) :: (.int .i64 ((i : Nat) : Int)) :: (.pointer (some ⟨n2, 0, none⟩)) :: z3 :: (.bool false) :: zz), defers := [] }) (by kernel_rfl) ?_
  refine wpList_nil ?_
  exact H n2 w0 hS gn2 Bn2
theorem quo8 (k : Nat) (h : k < 256) : IntKind.i64.wrap ((k : Int).tdiv 8) = (k : Int) / 8 := by
  rw [Int.tdiv_eq_ediv_of_nonneg (by omega), wrap_i64_small' _ (by omega) (by omega)]
theorem quo8' (k : Nat) (h : k < 256) : IntKind.i64.wrap ((k : Int) / 8) = (k : Int) / 8 := by
  rw [wrap_i64_small' _ (by omega) (by omega)]
theorem rem8 (k : Nat) : IntKind.i64.wrap ((k : Int).tmod 8) = (k : Int) % 8 := by
  rw [Int.tmod_eq_emod_of_nonneg (by omega), wrap_i64_small' _ (by omega) (by omega)]
theorem and8_one (n : Nat) (h : n < 256) : bits .and .u8 (n : Int) 1 = ((n % 2 : Nat) : Int) := by
  have := (by decide +kernel : ∀ i : Fin 256, bits .and .u8 ((i.val : Nat) : Int) 1 = ((i.val % 2 : Nat) : Int)) ⟨n, h⟩
  exact this
set_option maxHeartbeats 1000000 in
theorem bitOf_c (f : Nat → Nat) (i : Nat) (w : World) (hf : ∀ i, f i < 256) (hi : i < 255) : Ret 20 #[.agg (vals .u8 32 f), .int .i64 ((i : Nat) : Int)] w (.bool (f (i / 8) / 2 ^ (i % 8) % 2 == 1)) := by
  have hm0 : (0 : Int) ≤ (i : Int) := by omega
  have hm4 : (i : Int) < 256 := by omega
  have hq0 : (0 : Int) ≤ (i : Int) / 8 := by omega
  have hq4 : (i : Int) / 8 < 32 := by omega
  have hq : IntKind.i64.wrap ((i : Int).tdiv 8) = (i : Int) / 8 := quo8 i (by omega)
  have hq' : IntKind.i64.wrap ((i : Int) / 8) = (i : Int) / 8 := quo8' i (by omega)
  have hr : IntKind.i64.wrap ((i : Int).tmod 8) = (i : Int) % 8 := rem8 i
  have hr' : (i : Int).tmod 8 = (i : Int) % 8 := by rw [Int.tmod_eq_emod_of_nonneg (by omega)]
  have hqn : ((i : Int) / 8).toNat = i / 8 := by omega
  have hrn : ((i : Int) % 8).toNat = i % 8 := by omega
  have hr0 : (0 : Int) ≤ (i : Int) % 8 := by omega
  have hr4 : (i : Int) % 8 < 8 := by omega
  have hdl2 : f (i / 8) / 2 ^ (i % 8) < 256 := Nat.lt_of_le_of_lt (Nat.div_le_self _ _) (hf _)
  have hand := and8_one _ hdl2
  rw [show ((f (i / 8) / 2 ^ (i % 8) : Nat) : Int) = ((f (i / 8) : Nat) : Int) / 2 ^ (i % 8) by simp] at hand
  obtain ⟨x, hx⟩ : ∃ x, x = f (i / 8) / 2 ^ (i % 8) % 2 := ⟨_, rfl⟩
  rw [← hx] at hand ⊢
  clear hf hx hdl2
  go_enter Try.func20, Try.ntmps20
  go_upto_region 0 with (fail)
  refine bo0_region _ (fun _ _ _ _ _ h => h) w _ _ _ _ f i ?_
  intro n2 w1 hK gn2 Bn2
  have hL := hide (hK.below w _ (Nat.le_refl _) (Below.refl _ w))
  have c0 := (Bn2.cell (i / 8)).trans (vals_get _ _ _ _ (by omega))
  clear hK Bn2 gn2
  go_wp2
  go_ret
  exact ⟨ret_bool (by rw [Bool.eq_iff_iff]; simp; omega), hL.out⟩
end Go.Proofs.Ytidhffaphbiapaa

/- MacLong's walk. -/
import Derived.Test.YtaegklfomecmfaaDoorMy
import Derived.Test.YtaegklfomecmfaaDoorKa
namespace Go.Proofs.YtaegklfomecmfaaDoor
open Go.RowKit

def mlOp0 : Oper := { dst := some 25, op := Op.move (Operand.tmp 5), type := 4, pos := "law.go:77", after := #[], guard := none }
def mlOp1 : Oper := { dst := some 26, op := Op.move (Operand.tmp 25), type := 4, pos := "law.go:77", after := #[{ on := 0, ground := Ground.data }], guard := none }
def mlOp2 : Oper := { dst := some 27, op := Op.move (Operand.tmp 0), type := 22, pos := "law.go:77", after := #[{ on := 1, ground := Ground.guard }], guard := some (1, true) }
def mlOp3 : Oper := { dst := some 28, op := Op.move (Operand.tmp 1), type := 22, pos := "law.go:77", after := #[{ on := 1, ground := Ground.guard }], guard := some (1, true) }
def mlOp4 : Oper := { dst := some 29, op := Op.buildSlice 29 1 #[(0, Operand.tmp 28)], type := 29, pos := "law.go:77", after := #[{ on := 3, ground := Ground.data }, { on := 1, ground := Ground.guard }], guard := some (1, true) }
def mlOp5 : Oper := { dst := some 30, op := Op.call { callee := Callee.value (Operand.func 9), args := #[Operand.tmp 27, Operand.tmp 29], argTypes := #[22, 29] }, type := 24, pos := "law.go:77", after := #[{ on := 2, ground := Ground.data }, { on := 4, ground := Ground.data }, { on := 1, ground := Ground.chain }, { on := 1, ground := Ground.guard }], guard := some (1, true) }
def mlOp6 : Oper := { dst := some 31, op := Op.slice 24 (Operand.tmp 6) none none none, type := 22, pos := "law.go:77", after := #[{ on := 1, ground := Ground.guard }], guard := some (1, true) }
def mlOp7 : Oper := { dst := some 32, op := Op.move (Operand.tmp 1), type := 22, pos := "law.go:77", after := #[{ on := 1, ground := Ground.guard }], guard := some (1, true) }
def mlOp8 : Oper := { dst := some 33, op := Op.buildSlice 29 1 #[(0, Operand.tmp 32)], type := 29, pos := "law.go:77", after := #[{ on := 7, ground := Ground.data }, { on := 1, ground := Ground.guard }], guard := some (1, true) }
def mlOp9 : Oper := { dst := some 34, op := Op.call { callee := Callee.value (Operand.func 9), args := #[Operand.tmp 31, Operand.tmp 33], argTypes := #[22, 29] }, type := 24, pos := "law.go:77", after := #[{ on := 6, ground := Ground.data }, { on := 8, ground := Ground.data }, { on := 5, ground := Ground.chain }, { on := 1, ground := Ground.guard }], guard := some (1, true) }
def mlOp10 : Oper := { dst := some 35, op := Op.binOp BinOp.eql 24 (Operand.tmp 30) (Operand.tmp 34) 24, type := 4, pos := "law.go:77", after := #[{ on := 5, ground := Ground.data }, { on := 9, ground := Ground.data }, { on := 1, ground := Ground.guard }], guard := some (1, true) }
def mlOp11 : Oper := { dst := some 36, op := Op.pick (Operand.tmp 26) (Operand.tmp 35) (Operand.const (Value.bool false)), type := 4, pos := "law.go:77", after := #[{ on := 1, ground := Ground.data }, { on := 10, ground := Ground.data }], guard := none }
def mlOp12 : Oper := { dst := some 4, op := Op.assign (Operand.tmp 36), type := 4, pos := "law.go:77", after := #[{ on := 11, ground := Ground.data }, { on := 9, ground := Ground.chain }, { on := 0, ground := Ground.phase }, { on := 1, ground := Ground.phase }, { on := 2, ground := Ground.phase }, { on := 3, ground := Ground.phase }, { on := 4, ground := Ground.phase }, { on := 5, ground := Ground.phase }, { on := 6, ground := Ground.phase }, { on := 7, ground := Ground.phase }, { on := 8, ground := Ground.phase }, { on := 9, ground := Ground.phase }, { on := 10, ground := Ground.phase }, { on := 11, ground := Ground.phase }], guard := none }
def mlOps : Array Oper := #[mlOp0, mlOp1, mlOp2, mlOp3, mlOp4, mlOp5, mlOp6, mlOp7, mlOp8, mlOp9, mlOp10, mlOp11, mlOp12]
set_option maxRecDepth 100000 in
set_option maxHeartbeats 1000000 in
theorem ml_0 (Q : Exit → Act → World → Prop) (hQ : ∀ c a w n v, Q (.panic c) (a.put (some n) v) w → Q (.panic c) a w) (u : World) (z2 z3 z4 z7 z8 z9 z10 z11 z12 z13 z14 z15 z16 z17 z18 z19 z20 z21 z22 z23 z24 z25 z26 z27 z28 z29 z30 z31 z32 z33 z34 z35 z36 : Value) (f : Nat → Nat) (h0 : SumOk) (A B : Option Addr) (k l q : List Nat) (ca cb bd : Nat) (HG : Glob u) (HA : Rds u A k) (Hca : k.length ≤ ca) (Hk : ∀ x ∈ k, x < 256) (HB : Rds u B l) (Hcb : l.length ≤ cb) (Hl : ∀ x ∈ l, x < 256) (HD : Rds u (some ⟨bd, 0, none⟩) q) (hq : q.length = 64) (Hq : ∀ x ∈ q, x < 256) (hf : Hid (f = mc k l)) (hf2 : Hid (f = mc q l)) (hlk : k.length ≤ 1000) (hll : l.length ≤ 1000) (H : ∀ (b1 : Nat) (b2 : Nat) (w : World), Below u.heap.size u w → Blk w b1 #[.slice B l.length cb] 22 → Blk w b2 #[.slice B l.length cb] 22 → Q .normal { tmps := List.toArray ((.slice A k.length ca) :: (.slice B l.length cb) :: z2 :: z3 :: ((.bool true)) :: ((.bool true)) :: (.pointer (some ⟨bd, 0, none⟩)) :: z7 :: z8 :: z9 :: z10 :: z11 :: z12 :: z13 :: z14 :: z15 :: z16 :: z17 :: z18 :: z19 :: z20 :: z21 :: z22 :: z23 :: z24 :: ((.bool true)) :: ((.bool true)) :: (.slice A k.length ca) :: (.slice B l.length cb) :: (.slice (some ⟨b1, 0, none⟩) 1 1) :: (.agg (vals .u8 64 f)) :: (.slice (some ⟨bd, 0, none⟩) 64 64) :: (.slice B l.length cb) :: (.slice (some ⟨b2, 0, none⟩) 1 1) :: (.agg (vals .u8 64 f)) :: ((.bool true)) :: ((.bool true)) :: []), defers := [] } w) (b1 : Nat) (b2 : Nat) (w : World) (hS : Below u.heap.size u w) (cb1 : Blk w b1 #[.slice B l.length cb] 22) (cb2 : Blk w b2 #[.slice B l.length cb] 22) :
    wpAnyH Tryd.prog .any mlOps Q (fun w' => Below u.heap.size u w') 0 (List.toArray (true :: true :: true :: true :: true :: true :: true :: true :: true :: true :: true :: true :: true :: [])) { tmps := List.toArray ((.slice A k.length ca) :: (.slice B l.length cb) :: z2 :: z3 :: ((.bool true)) :: ((.bool true)) :: (.pointer (some ⟨bd, 0, none⟩)) :: z7 :: z8 :: z9 :: z10 :: z11 :: z12 :: z13 :: z14 :: z15 :: z16 :: z17 :: z18 :: z19 :: z20 :: z21 :: z22 :: z23 :: z24 :: ((.bool true)) :: ((.bool true)) :: (.slice A k.length ca) :: (.slice B l.length cb) :: (.slice (some ⟨b1, 0, none⟩) 1 1) :: (.agg (vals .u8 64 f)) :: (.slice (some ⟨bd, 0, none⟩) 64 64) :: (.slice B l.length cb) :: (.slice (some ⟨b2, 0, none⟩) 1 1) :: (.agg (vals .u8 64 f)) :: ((.bool true)) :: ((.bool true)) :: []), defers := [] } w := by
  have _ := hQ
  have _ := u
  have _ := z2
  have _ := z3
  have _ := z4
  have _ := z7
  have _ := z8
  have _ := z9
  have _ := z10
  have _ := z11
  have _ := z12
  have _ := z13
  have _ := z14
  have _ := z15
  have _ := z16
  have _ := z17
  have _ := z18
  have _ := z19
  have _ := z20
  have _ := z21
  have _ := z22
  have _ := z23
  have _ := z24
  have _ := z25
  have _ := z26
  have _ := z27
  have _ := z28
  have _ := z29
  have _ := z30
  have _ := z31
  have _ := z32
  have _ := z33
  have _ := z34
  have _ := z35
  have _ := z36
  have _ := f
  have _ := h0
  have _ := A
  have _ := B
  have _ := k
  have _ := l
  have _ := q
  have _ := ca
  have _ := cb
  have _ := bd
  have _ := HG
  have _ := HA
  have _ := Hca
  have _ := Hk
  have _ := HB
  have _ := Hcb
  have _ := Hl
  have _ := HD
  have _ := hq
  have _ := Hq
  have _ := hf
  have _ := hf2
  have _ := hlk
  have _ := hll
  exact wpAnyH_done (by kernel_rfl) (H b1 b2 w hS cb1 cb2) _
set_option maxRecDepth 100000 in
set_option maxHeartbeats 1000000 in
theorem ml_1 (Q : Exit → Act → World → Prop) (hQ : ∀ c a w n v, Q (.panic c) (a.put (some n) v) w → Q (.panic c) a w) (u : World) (z2 z3 z4 z7 z8 z9 z10 z11 z12 z13 z14 z15 z16 z17 z18 z19 z20 z21 z22 z23 z24 z25 z26 z27 z28 z29 z30 z31 z32 z33 z34 z35 z36 : Value) (f : Nat → Nat) (h0 : SumOk) (A B : Option Addr) (k l q : List Nat) (ca cb bd : Nat) (HG : Glob u) (HA : Rds u A k) (Hca : k.length ≤ ca) (Hk : ∀ x ∈ k, x < 256) (HB : Rds u B l) (Hcb : l.length ≤ cb) (Hl : ∀ x ∈ l, x < 256) (HD : Rds u (some ⟨bd, 0, none⟩) q) (hq : q.length = 64) (Hq : ∀ x ∈ q, x < 256) (hf : Hid (f = mc k l)) (hf2 : Hid (f = mc q l)) (hlk : k.length ≤ 1000) (hll : l.length ≤ 1000) (H : ∀ (b1 : Nat) (b2 : Nat) (w : World), Below u.heap.size u w → Blk w b1 #[.slice B l.length cb] 22 → Blk w b2 #[.slice B l.length cb] 22 → Q .normal { tmps := List.toArray ((.slice A k.length ca) :: (.slice B l.length cb) :: z2 :: z3 :: ((.bool true)) :: ((.bool true)) :: (.pointer (some ⟨bd, 0, none⟩)) :: z7 :: z8 :: z9 :: z10 :: z11 :: z12 :: z13 :: z14 :: z15 :: z16 :: z17 :: z18 :: z19 :: z20 :: z21 :: z22 :: z23 :: z24 :: ((.bool true)) :: ((.bool true)) :: (.slice A k.length ca) :: (.slice B l.length cb) :: (.slice (some ⟨b1, 0, none⟩) 1 1) :: (.agg (vals .u8 64 f)) :: (.slice (some ⟨bd, 0, none⟩) 64 64) :: (.slice B l.length cb) :: (.slice (some ⟨b2, 0, none⟩) 1 1) :: (.agg (vals .u8 64 f)) :: ((.bool true)) :: ((.bool true)) :: []), defers := [] } w) (b1 : Nat) (b2 : Nat) (w : World) (hS : Below u.heap.size u w) (cb1 : Blk w b1 #[.slice B l.length cb] 22) (cb2 : Blk w b2 #[.slice B l.length cb] 22) :
    wpAnyH Tryd.prog .any mlOps Q (fun w' => Below u.heap.size u w') 4 (List.toArray (true :: true :: true :: true :: true :: true :: true :: true :: true :: false :: false :: false :: false :: [])) { tmps := List.toArray ((.slice A k.length ca) :: (.slice B l.length cb) :: z2 :: z3 :: z4 :: ((.bool true)) :: (.pointer (some ⟨bd, 0, none⟩)) :: z7 :: z8 :: z9 :: z10 :: z11 :: z12 :: z13 :: z14 :: z15 :: z16 :: z17 :: z18 :: z19 :: z20 :: z21 :: z22 :: z23 :: z24 :: ((.bool true)) :: ((.bool true)) :: (.slice A k.length ca) :: (.slice B l.length cb) :: (.slice (some ⟨b1, 0, none⟩) 1 1) :: (.agg (vals .u8 64 f)) :: (.slice (some ⟨bd, 0, none⟩) 64 64) :: (.slice B l.length cb) :: (.slice (some ⟨b2, 0, none⟩) 1 1) :: z34 :: z35 :: z36 :: []), defers := [] } w := by
  refine wpAnyH_ready (rs := [9]) (by kernel_rfl) (by simp) ?_
  refine AllReadyH.cons (o := mlOp9) rfl (fun K hK => ?_) AllReadyH.nil
  unfold mlOp9
  go_simp
  refine (mac_onef f h0 (some ⟨bd, 0, none⟩) B q l hf2.out 64 cb b2 22 _ w (by rw [hq]) cb2 (HG.low hS) (HD.low hS) (by omega) Hq (HB.low hS) Hcb Hl (by omega) (by omega)).mono ?_
  rintro e x ⟨rfl, hb⟩
  dsimp only
  have hS' := keepCall hb rfl hS
  refine hK.out _ _ hS' (fun _ => ?_)
  clear hK K
  simp only [List.setIfInBounds_toArray, List.set_cons_zero, List.set_cons_succ]
  refine wpAnyH_take (i := 10) (oi := mlOp10) (v := (.bool true)) rfl (by kernel_rfl) (by kernel_rfl) (by kernel_rfl) (fun _ _ _ => hQ _ _ _ _ _) (Or.inl ⟨by rfl, fun w hSw => by have h1 := eq_self f; unfold mlOp10; go_simp⟩) hS' ?_
  try simp only [mlOp10, Act.put, List.setIfInBounds_toArray, List.set_cons_zero, List.set_cons_succ]
  refine wpAnyH_take (i := 11) (oi := mlOp11) (v := (.bool true)) rfl (by kernel_rfl) (by kernel_rfl) (by kernel_rfl) (fun _ _ _ => hQ _ _ _ _ _) (Or.inl ⟨by rfl, fun w hSw => by unfold mlOp11; go_simp⟩) hS' ?_
  try simp only [mlOp11, Act.put, List.setIfInBounds_toArray, List.set_cons_zero, List.set_cons_succ]
  refine wpAnyH_take (i := 12) (oi := mlOp12) (v := (.bool true)) rfl (by kernel_rfl) (by kernel_rfl) (by kernel_rfl) (fun _ _ _ => hQ _ _ _ _ _) (Or.inl ⟨by rfl, fun w hSw => by unfold mlOp12; go_simp⟩) hS' ?_
  try simp only [mlOp12, Act.put, List.setIfInBounds_toArray, List.set_cons_zero, List.set_cons_succ]
  exact ml_0 Q hQ u z2 z3 z4 z7 z8 z9 z10 z11 z12 z13 z14 z15 z16 z17 z18 z19 z20 z21 z22 z23 z24 z25 z26 z27 z28 z29 z30 z31 z32 z33 z34 z35 z36 f h0 A B k l q ca cb bd HG HA Hca Hk HB Hcb Hl HD hq Hq hf hf2 hlk hll H b1 b2 x hS' (cb1.low hb) (cb2.low hb)
set_option maxRecDepth 100000 in
set_option maxHeartbeats 1000000 in
theorem ml_2 (Q : Exit → Act → World → Prop) (hQ : ∀ c a w n v, Q (.panic c) (a.put (some n) v) w → Q (.panic c) a w) (u : World) (z2 z3 z4 z7 z8 z9 z10 z11 z12 z13 z14 z15 z16 z17 z18 z19 z20 z21 z22 z23 z24 z25 z26 z27 z28 z29 z30 z31 z32 z33 z34 z35 z36 : Value) (f : Nat → Nat) (h0 : SumOk) (A B : Option Addr) (k l q : List Nat) (ca cb bd : Nat) (HG : Glob u) (HA : Rds u A k) (Hca : k.length ≤ ca) (Hk : ∀ x ∈ k, x < 256) (HB : Rds u B l) (Hcb : l.length ≤ cb) (Hl : ∀ x ∈ l, x < 256) (HD : Rds u (some ⟨bd, 0, none⟩) q) (hq : q.length = 64) (Hq : ∀ x ∈ q, x < 256) (hf : Hid (f = mc k l)) (hf2 : Hid (f = mc q l)) (hlk : k.length ≤ 1000) (hll : l.length ≤ 1000) (H : ∀ (b1 : Nat) (b2 : Nat) (w : World), Below u.heap.size u w → Blk w b1 #[.slice B l.length cb] 22 → Blk w b2 #[.slice B l.length cb] 22 → Q .normal { tmps := List.toArray ((.slice A k.length ca) :: (.slice B l.length cb) :: z2 :: z3 :: ((.bool true)) :: ((.bool true)) :: (.pointer (some ⟨bd, 0, none⟩)) :: z7 :: z8 :: z9 :: z10 :: z11 :: z12 :: z13 :: z14 :: z15 :: z16 :: z17 :: z18 :: z19 :: z20 :: z21 :: z22 :: z23 :: z24 :: ((.bool true)) :: ((.bool true)) :: (.slice A k.length ca) :: (.slice B l.length cb) :: (.slice (some ⟨b1, 0, none⟩) 1 1) :: (.agg (vals .u8 64 f)) :: (.slice (some ⟨bd, 0, none⟩) 64 64) :: (.slice B l.length cb) :: (.slice (some ⟨b2, 0, none⟩) 1 1) :: (.agg (vals .u8 64 f)) :: ((.bool true)) :: ((.bool true)) :: []), defers := [] } w) (b1 : Nat) (b2 : Nat) (w : World) (hS : Below u.heap.size u w) (cb1 : Blk w b1 #[.slice B l.length cb] 22) (cb2 : Blk w b2 #[.slice B l.length cb] 22) :
    wpAnyH Tryd.prog .any mlOps Q (fun w' => Below u.heap.size u w') 5 (List.toArray (true :: true :: true :: true :: true :: false :: true :: true :: true :: false :: false :: false :: false :: [])) { tmps := List.toArray ((.slice A k.length ca) :: (.slice B l.length cb) :: z2 :: z3 :: z4 :: ((.bool true)) :: (.pointer (some ⟨bd, 0, none⟩)) :: z7 :: z8 :: z9 :: z10 :: z11 :: z12 :: z13 :: z14 :: z15 :: z16 :: z17 :: z18 :: z19 :: z20 :: z21 :: z22 :: z23 :: z24 :: ((.bool true)) :: ((.bool true)) :: (.slice A k.length ca) :: (.slice B l.length cb) :: (.slice (some ⟨b1, 0, none⟩) 1 1) :: z30 :: (.slice (some ⟨bd, 0, none⟩) 64 64) :: (.slice B l.length cb) :: (.slice (some ⟨b2, 0, none⟩) 1 1) :: z34 :: z35 :: z36 :: []), defers := [] } w := by
  refine wpAnyH_ready (rs := [5]) (by kernel_rfl) (by simp) ?_
  refine AllReadyH.cons (o := mlOp5) rfl (fun K hK => ?_) AllReadyH.nil
  unfold mlOp5
  go_simp
  refine (mac_onef f h0 A B k l hf.out ca cb b1 22 _ w (by rfl) cb1 (HG.low hS) (HA.low hS) Hca Hk (HB.low hS) Hcb Hl (by omega) (by omega)).mono ?_
  rintro e x ⟨rfl, hb⟩
  dsimp only
  have hS' := keepCall hb rfl hS
  refine hK.out _ _ hS' (fun _ => ?_)
  clear hK K
  simp only [List.setIfInBounds_toArray, List.set_cons_zero, List.set_cons_succ]
  exact ml_1 Q hQ u z2 z3 z4 z7 z8 z9 z10 z11 z12 z13 z14 z15 z16 z17 z18 z19 z20 z21 z22 z23 z24 z25 z26 z27 z28 z29 z30 z31 z32 z33 z34 z35 z36 f h0 A B k l q ca cb bd HG HA Hca Hk HB Hcb Hl HD hq Hq hf hf2 hlk hll H b1 b2 x hS' (cb1.low hb) (cb2.low hb)
set_option maxRecDepth 100000 in
set_option maxHeartbeats 1000000 in
theorem ml_3 (Q : Exit → Act → World → Prop) (hQ : ∀ c a w n v, Q (.panic c) (a.put (some n) v) w → Q (.panic c) a w) (u : World) (z2 z3 z4 z7 z8 z9 z10 z11 z12 z13 z14 z15 z16 z17 z18 z19 z20 z21 z22 z23 z24 z25 z26 z27 z28 z29 z30 z31 z32 z33 z34 z35 z36 : Value) (f : Nat → Nat) (h0 : SumOk) (A B : Option Addr) (k l q : List Nat) (ca cb bd : Nat) (HG : Glob u) (HA : Rds u A k) (Hca : k.length ≤ ca) (Hk : ∀ x ∈ k, x < 256) (HB : Rds u B l) (Hcb : l.length ≤ cb) (Hl : ∀ x ∈ l, x < 256) (HD : Rds u (some ⟨bd, 0, none⟩) q) (hq : q.length = 64) (Hq : ∀ x ∈ q, x < 256) (hf : Hid (f = mc k l)) (hf2 : Hid (f = mc q l)) (hlk : k.length ≤ 1000) (hll : l.length ≤ 1000) (H : ∀ (b1 : Nat) (b2 : Nat) (w : World), Below u.heap.size u w → Blk w b1 #[.slice B l.length cb] 22 → Blk w b2 #[.slice B l.length cb] 22 → Q .normal { tmps := List.toArray ((.slice A k.length ca) :: (.slice B l.length cb) :: z2 :: z3 :: ((.bool true)) :: ((.bool true)) :: (.pointer (some ⟨bd, 0, none⟩)) :: z7 :: z8 :: z9 :: z10 :: z11 :: z12 :: z13 :: z14 :: z15 :: z16 :: z17 :: z18 :: z19 :: z20 :: z21 :: z22 :: z23 :: z24 :: ((.bool true)) :: ((.bool true)) :: (.slice A k.length ca) :: (.slice B l.length cb) :: (.slice (some ⟨b1, 0, none⟩) 1 1) :: (.agg (vals .u8 64 f)) :: (.slice (some ⟨bd, 0, none⟩) 64 64) :: (.slice B l.length cb) :: (.slice (some ⟨b2, 0, none⟩) 1 1) :: (.agg (vals .u8 64 f)) :: ((.bool true)) :: ((.bool true)) :: []), defers := [] } w) (b1 : Nat) (w : World) (hS : Below u.heap.size u w) (cb1 : Blk w b1 #[.slice B l.length cb] 22) :
    wpAnyH Tryd.prog .any mlOps Q (fun w' => Below u.heap.size u w') 5 (List.toArray (true :: true :: true :: true :: true :: true :: true :: true :: false :: false :: false :: false :: false :: [])) { tmps := List.toArray ((.slice A k.length ca) :: (.slice B l.length cb) :: z2 :: z3 :: z4 :: ((.bool true)) :: (.pointer (some ⟨bd, 0, none⟩)) :: z7 :: z8 :: z9 :: z10 :: z11 :: z12 :: z13 :: z14 :: z15 :: z16 :: z17 :: z18 :: z19 :: z20 :: z21 :: z22 :: z23 :: z24 :: ((.bool true)) :: ((.bool true)) :: (.slice A k.length ca) :: (.slice B l.length cb) :: (.slice (some ⟨b1, 0, none⟩) 1 1) :: (.agg (vals .u8 64 f)) :: (.slice (some ⟨bd, 0, none⟩) 64 64) :: (.slice B l.length cb) :: z33 :: z34 :: z35 :: z36 :: []), defers := [] } w := by
  refine wpAnyH_ready (rs := [8]) (by kernel_rfl) (by simp) ?_
  refine AllReadyH.cons (o := mlOp8) rfl (fun K hK => ?_) AllReadyH.nil
  have hb := (Below.refl w.heap.size w).alloc (Nat.le_refl _) (.cells (#[.slice B l.length cb]) 22)
  have hS' := keepCall hb rfl hS
  obtain ⟨b2, eb2⟩ : ∃ b, b = w.heap.size := ⟨_, rfl⟩
  have cb2 : Blk (w.alloc (.cells (#[.slice B l.length cb]) 22)) b2 #[.slice B l.length cb] 22 := by rw [eb2]; exact Blk.new w _ _
  unfold mlOp8
  go_simp
  rw [← eb2]
  refine hK.out _ _ hS' (fun _ => ?_)
  clear hK K
  simp only [List.setIfInBounds_toArray, List.set_cons_zero, List.set_cons_succ]
  exact ml_1 Q hQ u z2 z3 z4 z7 z8 z9 z10 z11 z12 z13 z14 z15 z16 z17 z18 z19 z20 z21 z22 z23 z24 z25 z26 z27 z28 z29 z30 z31 z32 z33 z34 z35 z36 f h0 A B k l q ca cb bd HG HA Hca Hk HB Hcb Hl HD hq Hq hf hf2 hlk hll H b1 b2 (w.alloc (.cells (#[.slice B l.length cb]) 22)) hS' (cb1.low hb) cb2
set_option maxRecDepth 100000 in
set_option maxHeartbeats 1000000 in
theorem ml_4 (Q : Exit → Act → World → Prop) (hQ : ∀ c a w n v, Q (.panic c) (a.put (some n) v) w → Q (.panic c) a w) (u : World) (z2 z3 z4 z7 z8 z9 z10 z11 z12 z13 z14 z15 z16 z17 z18 z19 z20 z21 z22 z23 z24 z25 z26 z27 z28 z29 z30 z31 z32 z33 z34 z35 z36 : Value) (f : Nat → Nat) (h0 : SumOk) (A B : Option Addr) (k l q : List Nat) (ca cb bd : Nat) (HG : Glob u) (HA : Rds u A k) (Hca : k.length ≤ ca) (Hk : ∀ x ∈ k, x < 256) (HB : Rds u B l) (Hcb : l.length ≤ cb) (Hl : ∀ x ∈ l, x < 256) (HD : Rds u (some ⟨bd, 0, none⟩) q) (hq : q.length = 64) (Hq : ∀ x ∈ q, x < 256) (hf : Hid (f = mc k l)) (hf2 : Hid (f = mc q l)) (hlk : k.length ≤ 1000) (hll : l.length ≤ 1000) (H : ∀ (b1 : Nat) (b2 : Nat) (w : World), Below u.heap.size u w → Blk w b1 #[.slice B l.length cb] 22 → Blk w b2 #[.slice B l.length cb] 22 → Q .normal { tmps := List.toArray ((.slice A k.length ca) :: (.slice B l.length cb) :: z2 :: z3 :: ((.bool true)) :: ((.bool true)) :: (.pointer (some ⟨bd, 0, none⟩)) :: z7 :: z8 :: z9 :: z10 :: z11 :: z12 :: z13 :: z14 :: z15 :: z16 :: z17 :: z18 :: z19 :: z20 :: z21 :: z22 :: z23 :: z24 :: ((.bool true)) :: ((.bool true)) :: (.slice A k.length ca) :: (.slice B l.length cb) :: (.slice (some ⟨b1, 0, none⟩) 1 1) :: (.agg (vals .u8 64 f)) :: (.slice (some ⟨bd, 0, none⟩) 64 64) :: (.slice B l.length cb) :: (.slice (some ⟨b2, 0, none⟩) 1 1) :: (.agg (vals .u8 64 f)) :: ((.bool true)) :: ((.bool true)) :: []), defers := [] } w) (b2 : Nat) (w : World) (hS : Below u.heap.size u w) (cb2 : Blk w b2 #[.slice B l.length cb] 22) :
    wpAnyH Tryd.prog .any mlOps Q (fun w' => Below u.heap.size u w') 6 (List.toArray (true :: true :: true :: true :: false :: false :: true :: true :: true :: false :: false :: false :: false :: [])) { tmps := List.toArray ((.slice A k.length ca) :: (.slice B l.length cb) :: z2 :: z3 :: z4 :: ((.bool true)) :: (.pointer (some ⟨bd, 0, none⟩)) :: z7 :: z8 :: z9 :: z10 :: z11 :: z12 :: z13 :: z14 :: z15 :: z16 :: z17 :: z18 :: z19 :: z20 :: z21 :: z22 :: z23 :: z24 :: ((.bool true)) :: ((.bool true)) :: (.slice A k.length ca) :: (.slice B l.length cb) :: z29 :: z30 :: (.slice (some ⟨bd, 0, none⟩) 64 64) :: (.slice B l.length cb) :: (.slice (some ⟨b2, 0, none⟩) 1 1) :: z34 :: z35 :: z36 :: []), defers := [] } w := by
  refine wpAnyH_ready (rs := [4]) (by kernel_rfl) (by simp) ?_
  refine AllReadyH.cons (o := mlOp4) rfl (fun K hK => ?_) AllReadyH.nil
  have hb := (Below.refl w.heap.size w).alloc (Nat.le_refl _) (.cells (#[.slice B l.length cb]) 22)
  have hS' := keepCall hb rfl hS
  obtain ⟨b1, eb1⟩ : ∃ b, b = w.heap.size := ⟨_, rfl⟩
  have cb1 : Blk (w.alloc (.cells (#[.slice B l.length cb]) 22)) b1 #[.slice B l.length cb] 22 := by rw [eb1]; exact Blk.new w _ _
  unfold mlOp4
  go_simp
  rw [← eb1]
  refine hK.out _ _ hS' (fun _ => ?_)
  clear hK K
  simp only [List.setIfInBounds_toArray, List.set_cons_zero, List.set_cons_succ]
  exact ml_2 Q hQ u z2 z3 z4 z7 z8 z9 z10 z11 z12 z13 z14 z15 z16 z17 z18 z19 z20 z21 z22 z23 z24 z25 z26 z27 z28 z29 z30 z31 z32 z33 z34 z35 z36 f h0 A B k l q ca cb bd HG HA Hca Hk HB Hcb Hl HD hq Hq hf hf2 hlk hll H b1 b2 (w.alloc (.cells (#[.slice B l.length cb]) 22)) hS' cb1 (cb2.low hb)
set_option maxRecDepth 100000 in
set_option maxHeartbeats 1000000 in
theorem ml_5 (Q : Exit → Act → World → Prop) (hQ : ∀ c a w n v, Q (.panic c) (a.put (some n) v) w → Q (.panic c) a w) (u : World) (z2 z3 z4 z7 z8 z9 z10 z11 z12 z13 z14 z15 z16 z17 z18 z19 z20 z21 z22 z23 z24 z25 z26 z27 z28 z29 z30 z31 z32 z33 z34 z35 z36 : Value) (f : Nat → Nat) (h0 : SumOk) (A B : Option Addr) (k l q : List Nat) (ca cb bd : Nat) (HG : Glob u) (HA : Rds u A k) (Hca : k.length ≤ ca) (Hk : ∀ x ∈ k, x < 256) (HB : Rds u B l) (Hcb : l.length ≤ cb) (Hl : ∀ x ∈ l, x < 256) (HD : Rds u (some ⟨bd, 0, none⟩) q) (hq : q.length = 64) (Hq : ∀ x ∈ q, x < 256) (hf : Hid (f = mc k l)) (hf2 : Hid (f = mc q l)) (hlk : k.length ≤ 1000) (hll : l.length ≤ 1000) (H : ∀ (b1 : Nat) (b2 : Nat) (w : World), Below u.heap.size u w → Blk w b1 #[.slice B l.length cb] 22 → Blk w b2 #[.slice B l.length cb] 22 → Q .normal { tmps := List.toArray ((.slice A k.length ca) :: (.slice B l.length cb) :: z2 :: z3 :: ((.bool true)) :: ((.bool true)) :: (.pointer (some ⟨bd, 0, none⟩)) :: z7 :: z8 :: z9 :: z10 :: z11 :: z12 :: z13 :: z14 :: z15 :: z16 :: z17 :: z18 :: z19 :: z20 :: z21 :: z22 :: z23 :: z24 :: ((.bool true)) :: ((.bool true)) :: (.slice A k.length ca) :: (.slice B l.length cb) :: (.slice (some ⟨b1, 0, none⟩) 1 1) :: (.agg (vals .u8 64 f)) :: (.slice (some ⟨bd, 0, none⟩) 64 64) :: (.slice B l.length cb) :: (.slice (some ⟨b2, 0, none⟩) 1 1) :: (.agg (vals .u8 64 f)) :: ((.bool true)) :: ((.bool true)) :: []), defers := [] } w) (b1 : Nat) (w : World) (hS : Below u.heap.size u w) (cb1 : Blk w b1 #[.slice B l.length cb] 22) :
    wpAnyH Tryd.prog .any mlOps Q (fun w' => Below u.heap.size u w') 6 (List.toArray (true :: true :: true :: true :: true :: false :: true :: true :: false :: false :: false :: false :: false :: [])) { tmps := List.toArray ((.slice A k.length ca) :: (.slice B l.length cb) :: z2 :: z3 :: z4 :: ((.bool true)) :: (.pointer (some ⟨bd, 0, none⟩)) :: z7 :: z8 :: z9 :: z10 :: z11 :: z12 :: z13 :: z14 :: z15 :: z16 :: z17 :: z18 :: z19 :: z20 :: z21 :: z22 :: z23 :: z24 :: ((.bool true)) :: ((.bool true)) :: (.slice A k.length ca) :: (.slice B l.length cb) :: (.slice (some ⟨b1, 0, none⟩) 1 1) :: z30 :: (.slice (some ⟨bd, 0, none⟩) 64 64) :: (.slice B l.length cb) :: z33 :: z34 :: z35 :: z36 :: []), defers := [] } w := by
  refine wpAnyH_ready (rs := [5, 8]) (by kernel_rfl) (by simp) ?_
  refine AllReadyH.cons (o := mlOp5) rfl (fun K hK => ?_) ?_
  · skip
    unfold mlOp5
    go_simp
    refine (mac_onef f h0 A B k l hf.out ca cb b1 22 _ w (by rfl) cb1 (HG.low hS) (HA.low hS) Hca Hk (HB.low hS) Hcb Hl (by omega) (by omega)).mono ?_
    rintro e x ⟨rfl, hb⟩
    dsimp only
    have hS' := keepCall hb rfl hS
    refine hK.out _ _ hS' (fun _ => ?_)
    clear hK K
    simp only [List.setIfInBounds_toArray, List.set_cons_zero, List.set_cons_succ]
    exact ml_3 Q hQ u z2 z3 z4 z7 z8 z9 z10 z11 z12 z13 z14 z15 z16 z17 z18 z19 z20 z21 z22 z23 z24 z25 z26 z27 z28 z29 z30 z31 z32 z33 z34 z35 z36 f h0 A B k l q ca cb bd HG HA Hca Hk HB Hcb Hl HD hq Hq hf hf2 hlk hll H b1 x hS' (cb1.low hb)
  · refine AllReadyH.cons (o := mlOp8) rfl (fun K hK => ?_) AllReadyH.nil
    have hb := (Below.refl w.heap.size w).alloc (Nat.le_refl _) (.cells (#[.slice B l.length cb]) 22)
    have hS' := keepCall hb rfl hS
    obtain ⟨b2, eb2⟩ : ∃ b, b = w.heap.size := ⟨_, rfl⟩
    have cb2 : Blk (w.alloc (.cells (#[.slice B l.length cb]) 22)) b2 #[.slice B l.length cb] 22 := by rw [eb2]; exact Blk.new w _ _
    unfold mlOp8
    go_simp
    rw [← eb2]
    refine hK.out _ _ hS' (fun _ => ?_)
    clear hK K
    simp only [List.setIfInBounds_toArray, List.set_cons_zero, List.set_cons_succ]
    exact ml_2 Q hQ u z2 z3 z4 z7 z8 z9 z10 z11 z12 z13 z14 z15 z16 z17 z18 z19 z20 z21 z22 z23 z24 z25 z26 z27 z28 z29 z30 z31 z32 z33 z34 z35 z36 f h0 A B k l q ca cb bd HG HA Hca Hk HB Hcb Hl HD hq Hq hf hf2 hlk hll H b1 b2 (w.alloc (.cells (#[.slice B l.length cb]) 22)) hS' (cb1.low hb) cb2
set_option maxRecDepth 100000 in
set_option maxHeartbeats 1000000 in
theorem ml_6 (Q : Exit → Act → World → Prop) (hQ : ∀ c a w n v, Q (.panic c) (a.put (some n) v) w → Q (.panic c) a w) (u : World) (z2 z3 z4 z7 z8 z9 z10 z11 z12 z13 z14 z15 z16 z17 z18 z19 z20 z21 z22 z23 z24 z25 z26 z27 z28 z29 z30 z31 z32 z33 z34 z35 z36 : Value) (f : Nat → Nat) (h0 : SumOk) (A B : Option Addr) (k l q : List Nat) (ca cb bd : Nat) (HG : Glob u) (HA : Rds u A k) (Hca : k.length ≤ ca) (Hk : ∀ x ∈ k, x < 256) (HB : Rds u B l) (Hcb : l.length ≤ cb) (Hl : ∀ x ∈ l, x < 256) (HD : Rds u (some ⟨bd, 0, none⟩) q) (hq : q.length = 64) (Hq : ∀ x ∈ q, x < 256) (hf : Hid (f = mc k l)) (hf2 : Hid (f = mc q l)) (hlk : k.length ≤ 1000) (hll : l.length ≤ 1000) (H : ∀ (b1 : Nat) (b2 : Nat) (w : World), Below u.heap.size u w → Blk w b1 #[.slice B l.length cb] 22 → Blk w b2 #[.slice B l.length cb] 22 → Q .normal { tmps := List.toArray ((.slice A k.length ca) :: (.slice B l.length cb) :: z2 :: z3 :: ((.bool true)) :: ((.bool true)) :: (.pointer (some ⟨bd, 0, none⟩)) :: z7 :: z8 :: z9 :: z10 :: z11 :: z12 :: z13 :: z14 :: z15 :: z16 :: z17 :: z18 :: z19 :: z20 :: z21 :: z22 :: z23 :: z24 :: ((.bool true)) :: ((.bool true)) :: (.slice A k.length ca) :: (.slice B l.length cb) :: (.slice (some ⟨b1, 0, none⟩) 1 1) :: (.agg (vals .u8 64 f)) :: (.slice (some ⟨bd, 0, none⟩) 64 64) :: (.slice B l.length cb) :: (.slice (some ⟨b2, 0, none⟩) 1 1) :: (.agg (vals .u8 64 f)) :: ((.bool true)) :: ((.bool true)) :: []), defers := [] } w) (w : World) (hS : Below u.heap.size u w) :
    wpAnyH Tryd.prog .any mlOps Q (fun w' => Below u.heap.size u w') 7 (List.toArray (true :: true :: true :: true :: false :: false :: true :: true :: false :: false :: false :: false :: false :: [])) { tmps := List.toArray ((.slice A k.length ca) :: (.slice B l.length cb) :: z2 :: z3 :: z4 :: ((.bool true)) :: (.pointer (some ⟨bd, 0, none⟩)) :: z7 :: z8 :: z9 :: z10 :: z11 :: z12 :: z13 :: z14 :: z15 :: z16 :: z17 :: z18 :: z19 :: z20 :: z21 :: z22 :: z23 :: z24 :: ((.bool true)) :: ((.bool true)) :: (.slice A k.length ca) :: (.slice B l.length cb) :: z29 :: z30 :: (.slice (some ⟨bd, 0, none⟩) 64 64) :: (.slice B l.length cb) :: z33 :: z34 :: z35 :: z36 :: []), defers := [] } w := by
  refine wpAnyH_ready (rs := [4, 8]) (by kernel_rfl) (by simp) ?_
  refine AllReadyH.cons (o := mlOp4) rfl (fun K hK => ?_) ?_
  · skip
    have hb := (Below.refl w.heap.size w).alloc (Nat.le_refl _) (.cells (#[.slice B l.length cb]) 22)
    have hS' := keepCall hb rfl hS
    obtain ⟨b1, eb1⟩ : ∃ b, b = w.heap.size := ⟨_, rfl⟩
    have cb1 : Blk (w.alloc (.cells (#[.slice B l.length cb]) 22)) b1 #[.slice B l.length cb] 22 := by rw [eb1]; exact Blk.new w _ _
    unfold mlOp4
    go_simp
    rw [← eb1]
    refine hK.out _ _ hS' (fun _ => ?_)
    clear hK K
    simp only [List.setIfInBounds_toArray, List.set_cons_zero, List.set_cons_succ]
    exact ml_5 Q hQ u z2 z3 z4 z7 z8 z9 z10 z11 z12 z13 z14 z15 z16 z17 z18 z19 z20 z21 z22 z23 z24 z25 z26 z27 z28 z29 z30 z31 z32 z33 z34 z35 z36 f h0 A B k l q ca cb bd HG HA Hca Hk HB Hcb Hl HD hq Hq hf hf2 hlk hll H b1 (w.alloc (.cells (#[.slice B l.length cb]) 22)) hS' cb1
  · refine AllReadyH.cons (o := mlOp8) rfl (fun K hK => ?_) AllReadyH.nil
    have hb := (Below.refl w.heap.size w).alloc (Nat.le_refl _) (.cells (#[.slice B l.length cb]) 22)
    have hS' := keepCall hb rfl hS
    obtain ⟨b2, eb2⟩ : ∃ b, b = w.heap.size := ⟨_, rfl⟩
    have cb2 : Blk (w.alloc (.cells (#[.slice B l.length cb]) 22)) b2 #[.slice B l.length cb] 22 := by rw [eb2]; exact Blk.new w _ _
    unfold mlOp8
    go_simp
    rw [← eb2]
    refine hK.out _ _ hS' (fun _ => ?_)
    clear hK K
    simp only [List.setIfInBounds_toArray, List.set_cons_zero, List.set_cons_succ]
    exact ml_4 Q hQ u z2 z3 z4 z7 z8 z9 z10 z11 z12 z13 z14 z15 z16 z17 z18 z19 z20 z21 z22 z23 z24 z25 z26 z27 z28 z29 z30 z31 z32 z33 z34 z35 z36 f h0 A B k l q ca cb bd HG HA Hca Hk HB Hcb Hl HD hq Hq hf hf2 hlk hll H b2 (w.alloc (.cells (#[.slice B l.length cb]) 22)) hS' cb2
set_option maxRecDepth 100000 in
set_option maxHeartbeats 1000000 in
theorem ml_region (Q : Exit → Act → World → Prop) (hQ : ∀ c a w n v, Q (.panic c) (a.put (some n) v) w → Q (.panic c) a w) (u : World) (z2 z3 z4 z7 z8 z9 z10 z11 z12 z13 z14 z15 z16 z17 z18 z19 z20 z21 z22 z23 z24 z25 z26 z27 z28 z29 z30 z31 z32 z33 z34 z35 z36 : Value) (f : Nat → Nat) (h0 : SumOk) (A B : Option Addr) (k l q : List Nat) (ca cb bd : Nat) (HG : Glob u) (HA : Rds u A k) (Hca : k.length ≤ ca) (Hk : ∀ x ∈ k, x < 256) (HB : Rds u B l) (Hcb : l.length ≤ cb) (Hl : ∀ x ∈ l, x < 256) (HD : Rds u (some ⟨bd, 0, none⟩) q) (hq : q.length = 64) (Hq : ∀ x ∈ q, x < 256) (hf : Hid (f = mc k l)) (hf2 : Hid (f = mc q l)) (hlk : k.length ≤ 1000) (hll : l.length ≤ 1000) (H : ∀ (b1 : Nat) (b2 : Nat) (w : World), Below u.heap.size u w → Blk w b1 #[.slice B l.length cb] 22 → Blk w b2 #[.slice B l.length cb] 22 → Q .normal { tmps := List.toArray ((.slice A k.length ca) :: (.slice B l.length cb) :: z2 :: z3 :: ((.bool true)) :: ((.bool true)) :: (.pointer (some ⟨bd, 0, none⟩)) :: z7 :: z8 :: z9 :: z10 :: z11 :: z12 :: z13 :: z14 :: z15 :: z16 :: z17 :: z18 :: z19 :: z20 :: z21 :: z22 :: z23 :: z24 :: ((.bool true)) :: ((.bool true)) :: (.slice A k.length ca) :: (.slice B l.length cb) :: (.slice (some ⟨b1, 0, none⟩) 1 1) :: (.agg (vals .u8 64 f)) :: (.slice (some ⟨bd, 0, none⟩) 64 64) :: (.slice B l.length cb) :: (.slice (some ⟨b2, 0, none⟩) 1 1) :: (.agg (vals .u8 64 f)) :: ((.bool true)) :: ((.bool true)) :: []), defers := [] } w) :
    (Code.region 5 mlOps true).wp Tryd.prog Q { tmps := List.toArray ((.slice A k.length ca) :: (.slice B l.length cb) :: z2 :: z3 :: z4 :: ((.bool true)) :: (.pointer (some ⟨bd, 0, none⟩)) :: z7 :: z8 :: z9 :: z10 :: z11 :: z12 :: z13 :: z14 :: z15 :: z16 :: z17 :: z18 :: z19 :: z20 :: z21 :: z22 :: z23 :: z24 :: z25 :: z26 :: z27 :: z28 :: z29 :: z30 :: z31 :: z32 :: z33 :: z34 :: z35 :: z36 :: []), defers := [] } u := by
  refine wp_region_held_drew (S := (fun w' => Below u.heap.size u w')) (by kernel_rfl) (Below.refl _ _).drew (fun hS => ?_)
  refine wpAnyH_take (i := 0) (oi := mlOp0) (v := (.bool true)) rfl (by kernel_rfl) (by kernel_rfl) (by kernel_rfl) (fun _ _ _ => hQ _ _ _ _ _) (Or.inl ⟨by rfl, fun w hSw => by unfold mlOp0; go_simp⟩) hS ?_
  try simp only [mlOp0, Act.put, List.setIfInBounds_toArray, List.set_cons_zero, List.set_cons_succ]
  refine wpAnyH_take (i := 1) (oi := mlOp1) (v := (.bool true)) rfl (by kernel_rfl) (by kernel_rfl) (by kernel_rfl) (fun _ _ _ => hQ _ _ _ _ _) (Or.inl ⟨by rfl, fun w hSw => by unfold mlOp1; go_simp⟩) hS ?_
  try simp only [mlOp1, Act.put, List.setIfInBounds_toArray, List.set_cons_zero, List.set_cons_succ]
  refine wpAnyH_take (i := 2) (oi := mlOp2) (v := .slice A k.length ca) rfl (by kernel_rfl) (by kernel_rfl) (by kernel_rfl) (fun _ _ _ => hQ _ _ _ _ _) (Or.inl ⟨by rfl, fun w hSw => by unfold mlOp2; go_simp⟩) hS ?_
  try simp only [mlOp2, Act.put, List.setIfInBounds_toArray, List.set_cons_zero, List.set_cons_succ]
  refine wpAnyH_take (i := 3) (oi := mlOp3) (v := .slice B l.length cb) rfl (by kernel_rfl) (by kernel_rfl) (by kernel_rfl) (fun _ _ _ => hQ _ _ _ _ _) (Or.inl ⟨by rfl, fun w hSw => by unfold mlOp3; go_simp⟩) hS ?_
  try simp only [mlOp3, Act.put, List.setIfInBounds_toArray, List.set_cons_zero, List.set_cons_succ]
  refine wpAnyH_take (i := 6) (oi := mlOp6) (v := .slice (some ⟨bd, 0, none⟩) 64 64) rfl (by kernel_rfl) (by kernel_rfl) (by kernel_rfl) (fun _ _ _ => hQ _ _ _ _ _) (Or.inl ⟨by rfl, fun w hSw => by unfold mlOp6; go_simp⟩) hS ?_
  try simp only [mlOp6, Act.put, List.setIfInBounds_toArray, List.set_cons_zero, List.set_cons_succ]
  refine wpAnyH_take (i := 7) (oi := mlOp7) (v := .slice B l.length cb) rfl (by kernel_rfl) (by kernel_rfl) (by kernel_rfl) (fun _ _ _ => hQ _ _ _ _ _) (Or.inl ⟨by rfl, fun w hSw => by unfold mlOp7; go_simp⟩) hS ?_
  try simp only [mlOp7, Act.put, List.setIfInBounds_toArray, List.set_cons_zero, List.set_cons_succ]
  exact ml_6 Q hQ u z2 z3 z4 z7 z8 z9 z10 z11 z12 z13 z14 z15 z16 z17 z18 z19 z20 z21 z22 z23 z24 z25 z26 z27 z28 z29 z30 z31 z32 z33 z34 z35 z36 f h0 A B k l q ca cb bd HG HA Hca Hk HB Hcb Hl HD hq Hq hf hf2 hlk hll H u.drew hS
set_option maxRecDepth 100000 in
set_option maxHeartbeats 4000000 in
theorem mlong_walk (h0 : SumOk) (h1 : AwakeOk) (A B : Option Addr) (k l : List Nat) (ca cb : Nat) (w : World) (hG : Glob w) (hA : Rds w A k) (hcap : k.length ≤ ca) (hk : ∀ x ∈ k, x < 256) (hB : Rds w B l) (hcb : l.length ≤ cb) (hl : ∀ x ∈ l, x < 256) :
    Calls Tryd.prog 7 #[.slice A k.length ca, .slice B l.length cb] w fun e w' => e = .returned (.bool true) ∧ Below w.heap.size w w' := by
  have H0 := hide h0
  have H1 := hide h1
  have HG := hide hG
  have HA := hide hA
  have Hca := hide hcap
  have Hk := hide hk
  have HB := hide hB
  have Hcb := hide hcb
  have Hl := hide hl
  clear h0 h1 hG hA hcap hk hB hcb hl
  go_enter Tryd.func7, Tryd.ntmps7
  go_upto_region 2 with (go_at_call 8; refine (H1.out _ _ rfl HG.out).mono ?_; rintro e w1 ⟨rfl, hb⟩; have L1 := hide hb; clear hb; dsimp only)
  clear H1
  by_cases hlo : k.length ≤ 128
  · have hi : (k.length : Int) ≤ (128 : Int) := by omega
    go_wp2
    go_ret
    exact ⟨rfl, L1.out⟩
  have hi0 : ¬ (k.length : Int) ≤ (128 : Int) := by omega
  have Hlo := hide hlo
  clear hlo
  by_cases hlk : 1000 < k.length
  · have hi : (1000 : Int) < (k.length : Int) := by omega
    go_wp2
    go_ret
    exact ⟨rfl, L1.out⟩
  have hi : ¬ (1000 : Int) < (k.length : Int) := by omega
  have Hlk := hide hlk
  clear hlk
  by_cases hll : 1000 < l.length
  · have hj : (1000 : Int) < (l.length : Int) := by omega
    go_wp2
    go_ret
    exact ⟨rfl, L1.out⟩
  have hj : ¬ (1000 : Int) < (l.length : Int) := by omega
  have Hll := hide hll
  clear hll
  have hz := zero24
  go_upto_region 5 with (first
    | (go_at_call 12; refine (all_one A k ca w1.heap.size 22 _ _ rfl (Blk.new w1 _ _) (HG.out.low (L1.out.alloc L1.out.size _)) (HA.out.low (L1.out.alloc L1.out.size _)) Hca.out Hk.out (by have := Hlk.out; omega)).mono ?_; rintro e k11 ⟨rfl, hb⟩; have L_11 := hide (keepLow2 (L1.out.alloc L1.out.size _) hb); clear hb L1; dsimp only)
    | (refine wpList_store_abs rfl 24 _ _ rfl k11.heap.size (vals .u8 64 (dg k)) rfl rfl 24 _ (Blk.new k11 _ _) (by rw [vals_size]; exact cells24) (by simp only [vals_size]) (vals_one _ _ _) ?_; intro k12 Bn Sn; have L_12 := hide (Sn.low _ _ (L_11.out.alloc L_11.out.size _) L_11.out.size); have D_12 := hide Bn; clear Bn Sn L_11))
  clear hz hi0 hi hj
  have Hd := hide (rds_vals D_12.out)
  clear D_12
  refine ml_region _ (fun _ _ _ _ _ h => h) k12 _ _ _ _ _ _ _ _ _ _ _ _ _ _ _ _ _ _ _ _ _ _ _ _ _ _ _ _ _ _ _ _ _ (mc k l) H0.out A B k l (dl k) ca cb k11.heap.size (HG.out.low L_12.out) (HA.out.low L_12.out) Hca.out Hk.out (HB.out.low L_12.out) Hcb.out Hl.out Hd.out (dl_len k) (dl_lt k) (hide rfl) (hide (mc_long k l (by have := Hlo.out; omega)).symm) (by have := Hlk.out; omega) (by have := Hll.out; omega) ?_
  intro b1 b2 w7 hb7 _ _
  have L7 := hide (keepLow2 L_12.out hb7)
  clear hb7
  go_wp2
  go_ret
  exact ⟨rfl, L7.out⟩
end Go.Proofs.YtaegklfomecmfaaDoor

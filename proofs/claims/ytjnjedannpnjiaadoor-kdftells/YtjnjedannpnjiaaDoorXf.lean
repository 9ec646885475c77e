/- Walks of chapter 5: awake's last region. -/
import Derived.Test.YtjnjedannpnjiaaDoorXe
namespace Go.Proofs.YtjnjedannpnjiaaDoor
open Go.RowKit

def awOp0 : Oper := { dst := some 37, op := Op.load 27 (Operand.tmp 1), type := 27, pos := "law.go:20", after := #[], guard := none }
def awOp1 : Oper := { dst := some 38, op := Op.buildSlice 23 1 #[(0, Operand.const (Value.int IntKind.u8 97))], type := 23, pos := "law.go:20", after := #[], guard := none }
def awOp2 : Oper := { dst := some 39, op := Op.convert 23 23 (Operand.tmp 38), type := 23, pos := "law.go:20", after := #[{ on := 1, ground := Ground.data }], guard := none }
def awOp3 : Oper := { dst := some 40, op := Op.buildSlice 36 1 #[(0, Operand.tmp 39)], type := 36, pos := "law.go:20", after := #[{ on := 2, ground := Ground.data }], guard := none }
def awOp4 : Oper := { dst := some 41, op := Op.call { callee := Callee.value (Operand.func 14), args := #[Operand.const (Value.slice none 0 0), Operand.tmp 40], argTypes := #[23, 36] }, type := 27, pos := "law.go:20", after := #[{ on := 3, ground := Ground.data }], guard := none }
def awOp5 : Oper := { dst := some 42, op := Op.binOp BinOp.eql 27 (Operand.tmp 37) (Operand.tmp 41) 27, type := 4, pos := "law.go:20", after := #[{ on := 0, ground := Ground.data }, { on := 4, ground := Ground.data }], guard := none }
def awOp6 : Oper := { dst := some 43, op := Op.move (Operand.tmp 42), type := 4, pos := "law.go:20", after := #[{ on := 5, ground := Ground.data }, { on := 4, ground := Ground.chain }], guard := none }
def awOp7 : Oper := { dst := some 44, op := Op.move (Operand.tmp 3), type := 24, pos := "law.go:20", after := #[{ on := 6, ground := Ground.guard }], guard := some (6, true) }
def awOp8 : Oper := { dst := some 45, op := Op.binOp BinOp.eql 24 (Operand.tmp 44) (Operand.const (Value.int IntKind.i64 0)) 24, type := 4, pos := "law.go:20", after := #[{ on := 7, ground := Ground.data }, { on := 6, ground := Ground.guard }], guard := some (6, true) }
def awOp9 : Oper := { dst := some 46, op := Op.pick (Operand.tmp 43) (Operand.tmp 45) (Operand.const (Value.bool false)), type := 4, pos := "law.go:20", after := #[{ on := 6, ground := Ground.data }, { on := 8, ground := Ground.data }], guard := none }
def awOp10 : Oper := { dst := some 47, op := Op.move (Operand.tmp 46), type := 4, pos := "law.go:20", after := #[{ on := 9, ground := Ground.data }, { on := 6, ground := Ground.chain }], guard := none }
def awOp11 : Oper := { dst := some 48, op := Op.move (Operand.tmp 5), type := 24, pos := "law.go:20", after := #[{ on := 10, ground := Ground.guard }], guard := some (10, true) }
def awOp12 : Oper := { dst := some 49, op := Op.binOp BinOp.eql 24 (Operand.tmp 48) (Operand.const (Value.int IntKind.i64 0)) 24, type := 4, pos := "law.go:20", after := #[{ on := 11, ground := Ground.data }, { on := 10, ground := Ground.guard }], guard := some (10, true) }
def awOp13 : Oper := { dst := some 50, op := Op.pick (Operand.tmp 47) (Operand.tmp 49) (Operand.const (Value.bool false)), type := 4, pos := "law.go:20", after := #[{ on := 10, ground := Ground.data }, { on := 12, ground := Ground.data }], guard := none }
def awOp14 : Oper := { dst := some 51, op := Op.move (Operand.tmp 50), type := 4, pos := "law.go:20", after := #[{ on := 13, ground := Ground.data }, { on := 10, ground := Ground.chain }], guard := none }
def awOp15 : Oper := { dst := some 52, op := Op.move (Operand.tmp 2), type := 23, pos := "law.go:20", after := #[{ on := 14, ground := Ground.guard }], guard := some (14, true) }
def awOp16 : Oper := { dst := some 53, op := Op.convert 23 9 (Operand.tmp 52), type := 9, pos := "law.go:20", after := #[{ on := 15, ground := Ground.data }, { on := 14, ground := Ground.guard }], guard := some (14, true) }
def awOp17 : Oper := { dst := some 54, op := Op.move (Operand.tmp 4), type := 23, pos := "law.go:20", after := #[{ on := 14, ground := Ground.guard }], guard := some (14, true) }
def awOp18 : Oper := { dst := some 55, op := Op.slice 23 (Operand.tmp 54) none (some (Operand.const (Value.int IntKind.i64 10))) none, type := 23, pos := "law.go:20", after := #[{ on := 17, ground := Ground.data }, { on := 14, ground := Ground.guard }], guard := some (14, true) }
def awOp19 : Oper := { dst := some 56, op := Op.convert 23 9 (Operand.tmp 55), type := 9, pos := "law.go:20", after := #[{ on := 18, ground := Ground.data }, { on := 14, ground := Ground.guard }], guard := some (14, true) }
def awOp20 : Oper := { dst := some 57, op := Op.binOp BinOp.eql 9 (Operand.tmp 53) (Operand.tmp 56) 9, type := 4, pos := "law.go:20", after := #[{ on := 16, ground := Ground.data }, { on := 19, ground := Ground.data }, { on := 14, ground := Ground.guard }], guard := some (14, true) }
def awOp21 : Oper := { dst := some 58, op := Op.pick (Operand.tmp 51) (Operand.tmp 57) (Operand.const (Value.bool false)), type := 4, pos := "law.go:20", after := #[{ on := 14, ground := Ground.data }, { on := 20, ground := Ground.data }], guard := none }
def awOp22 : Oper := { dst := some 59, op := Op.move (Operand.tmp 58), type := 4, pos := "law.go:20", after := #[{ on := 21, ground := Ground.data }, { on := 14, ground := Ground.chain }], guard := none }
def awOp23 : Oper := { dst := some 60, op := Op.move (Operand.tmp 7), type := 24, pos := "law.go:20", after := #[{ on := 22, ground := Ground.guard }], guard := some (22, true) }
def awOp24 : Oper := { dst := some 61, op := Op.binOp BinOp.eql 24 (Operand.tmp 60) (Operand.const (Value.int IntKind.i64 50)) 24, type := 4, pos := "law.go:20", after := #[{ on := 23, ground := Ground.data }, { on := 22, ground := Ground.guard }], guard := some (22, true) }
def awOp25 : Oper := { dst := some 62, op := Op.pick (Operand.tmp 59) (Operand.tmp 61) (Operand.const (Value.bool false)), type := 4, pos := "law.go:20", after := #[{ on := 22, ground := Ground.data }, { on := 24, ground := Ground.data }], guard := none }
def awOp26 : Oper := { dst := some 0, op := Op.assign (Operand.tmp 62), type := 4, pos := "law.go:20", after := #[{ on := 25, ground := Ground.data }, { on := 22, ground := Ground.chain }, { on := 0, ground := Ground.phase }, { on := 1, ground := Ground.phase }, { on := 2, ground := Ground.phase }, { on := 3, ground := Ground.phase }, { on := 4, ground := Ground.phase }, { on := 5, ground := Ground.phase }, { on := 6, ground := Ground.phase }, { on := 7, ground := Ground.phase }, { on := 8, ground := Ground.phase }, { on := 9, ground := Ground.phase }, { on := 10, ground := Ground.phase }, { on := 11, ground := Ground.phase }, { on := 12, ground := Ground.phase }, { on := 13, ground := Ground.phase }, { on := 14, ground := Ground.phase }, { on := 15, ground := Ground.phase }, { on := 16, ground := Ground.phase }, { on := 17, ground := Ground.phase }, { on := 18, ground := Ground.phase }, { on := 19, ground := Ground.phase }, { on := 20, ground := Ground.phase }, { on := 21, ground := Ground.phase }, { on := 22, ground := Ground.phase }, { on := 23, ground := Ground.phase }, { on := 24, ground := Ground.phase }, { on := 25, ground := Ground.phase }], guard := none }
def awOps : Array Oper := #[awOp0, awOp1, awOp2, awOp3, awOp4, awOp5, awOp6, awOp7, awOp8, awOp9, awOp10, awOp11, awOp12, awOp13, awOp14, awOp15, awOp16, awOp17, awOp18, awOp19, awOp20, awOp21, awOp22, awOp23, awOp24, awOp25, awOp26]
set_option maxRecDepth 100000 in
set_option maxHeartbeats 1000000 in
theorem aw_0 (Q : Exit → Act → World → Prop) (hQ : ∀ c a w n v, Q (.panic c) (a.put (some n) v) w → Q (.panic c) a w) (u : World) (z0 z6 z8 z9 z10 z11 z12 z13 z14 z15 z16 z17 z18 z19 z20 z21 z22 z23 z24 z25 z26 z27 z28 z29 z30 z31 z32 z33 z34 z35 z36 z37 z38 z39 z40 z41 z42 z43 z44 z45 z46 z47 z48 z49 z50 z51 z52 z53 z54 z55 z56 z57 z58 z59 z60 z61 z62 : Value) (h0 : SumOk) (f : Nat → Nat) (hf : Hid (f = mc [] [97])) (bk ga gb : Nat) (la : List Nat) (hl : Hid (la.length = 10)) (hx : ∀ x ∈ la, x < 256) (HG : Glob u) (HD : Blk u bk (vals .u8 64 f) 27) (RA : Rds u (some ⟨ga, 0, none⟩) la) (RB : Rds u (some ⟨gb, 0, none⟩) la) (H : ∀ (b1 : Nat) (b2 : Nat) (w : World), Below u.heap.size u w → Cel w b1 #[.int .u8 97] → u.heap.size ≤ b1 → Blk w b2 #[.slice (some ⟨b1, 0, none⟩) 1 1] 23 → Q .normal { tmps := List.toArray ((.bool true) :: (.pointer (some ⟨bk, 0, none⟩)) :: (.slice (some ⟨ga, 0, none⟩) 10 10) :: (.int .i64 0) :: (.slice (some ⟨gb, 0, none⟩) 100 100) :: (.int .i64 0) :: z6 :: (.int .i64 50) :: z8 :: z9 :: z10 :: z11 :: z12 :: z13 :: z14 :: z15 :: z16 :: z17 :: z18 :: z19 :: z20 :: z21 :: z22 :: z23 :: z24 :: z25 :: z26 :: z27 :: z28 :: z29 :: z30 :: z31 :: z32 :: z33 :: z34 :: z35 :: z36 :: (.agg (vals .u8 64 f)) :: (.slice (some ⟨b1, 0, none⟩) 1 1) :: (.slice (some ⟨b1, 0, none⟩) 1 1) :: (.slice (some ⟨b2, 0, none⟩) 1 1) :: (.agg (vals .u8 64 f)) :: (.bool true) :: (.bool true) :: (.int .i64 0) :: (.bool true) :: (.bool true) :: (.bool true) :: (.int .i64 0) :: (.bool true) :: (.bool true) :: (.bool true) :: (.slice (some ⟨ga, 0, none⟩) 10 10) :: (.string (sk la)) :: (.slice (some ⟨gb, 0, none⟩) 100 100) :: (.slice (some ⟨gb, 0, none⟩) 10 100) :: (.string (sk la)) :: (.bool true) :: (.bool true) :: (.bool true) :: (.int .i64 50) :: (.bool true) :: (.bool true) :: []), defers := [] } w) (b1 : Nat) (b2 : Nat) (w : World) (hS : Below u.heap.size u w) (c1 : Cel w b1 #[.int .u8 97]) (l1 : u.heap.size ≤ b1) (p2 : Blk w b2 #[.slice (some ⟨b1, 0, none⟩) 1 1] 23) :
    wpAnyH Tryd.prog .any awOps Q (fun w' => Below u.heap.size u w') 0 (List.toArray (true :: true :: true :: true :: true :: true :: true :: true :: true :: true :: true :: true :: true :: true :: true :: true :: true :: true :: true :: true :: true :: true :: true :: true :: true :: true :: true :: [])) { tmps := List.toArray ((.bool true) :: (.pointer (some ⟨bk, 0, none⟩)) :: (.slice (some ⟨ga, 0, none⟩) 10 10) :: (.int .i64 0) :: (.slice (some ⟨gb, 0, none⟩) 100 100) :: (.int .i64 0) :: z6 :: (.int .i64 50) :: z8 :: z9 :: z10 :: z11 :: z12 :: z13 :: z14 :: z15 :: z16 :: z17 :: z18 :: z19 :: z20 :: z21 :: z22 :: z23 :: z24 :: z25 :: z26 :: z27 :: z28 :: z29 :: z30 :: z31 :: z32 :: z33 :: z34 :: z35 :: z36 :: (.agg (vals .u8 64 f)) :: (.slice (some ⟨b1, 0, none⟩) 1 1) :: (.slice (some ⟨b1, 0, none⟩) 1 1) :: (.slice (some ⟨b2, 0, none⟩) 1 1) :: (.agg (vals .u8 64 f)) :: (.bool true) :: (.bool true) :: (.int .i64 0) :: (.bool true) :: (.bool true) :: (.bool true) :: (.int .i64 0) :: (.bool true) :: (.bool true) :: (.bool true) :: (.slice (some ⟨ga, 0, none⟩) 10 10) :: (.string (sk la)) :: (.slice (some ⟨gb, 0, none⟩) 100 100) :: (.slice (some ⟨gb, 0, none⟩) 10 100) :: (.string (sk la)) :: (.bool true) :: (.bool true) :: (.bool true) :: (.int .i64 50) :: (.bool true) :: (.bool true) :: []), defers := [] } w := by
  have _ := hQ
  have _ := u
  have _ := z0
  have _ := z6
  have _ := z8
  have _ := z9
  have _ := z10
  have _ := z11
  have _ := z12
  have _ := z13
  have _ := z14
  have _ := z15
  have _ := z16
  have _ := z17
  have _ := z18
  have _ := z19
  have _ := z20
  have _ := z21
  have _ := z22
  have _ := z23
  have _ := z24
  have _ := z25
  have _ := z26
  have _ := z27
  have _ := z28
  have _ := z29
  have _ := z30
  have _ := z31
  have _ := z32
  have _ := z33
  have _ := z34
  have _ := z35
  have _ := z36
  have _ := z37
  have _ := z38
  have _ := z39
  have _ := z40
  have _ := z41
  have _ := z42
  have _ := z43
  have _ := z44
  have _ := z45
  have _ := z46
  have _ := z47
  have _ := z48
  have _ := z49
  have _ := z50
  have _ := z51
  have _ := z52
  have _ := z53
  have _ := z54
  have _ := z55
  have _ := z56
  have _ := z57
  have _ := z58
  have _ := z59
  have _ := z60
  have _ := z61
  have _ := z62
  have _ := h0
  have _ := f
  have _ := hf
  have _ := bk
  have _ := ga
  have _ := gb
  have _ := la
  have _ := hl
  have _ := hx
  have _ := HG
  have _ := HD
  have _ := RA
  have _ := RB
  exact wpAnyH_done (by kernel_rfl) (H b1 b2 w hS c1 l1 p2) _
set_option maxRecDepth 100000 in
set_option maxHeartbeats 1000000 in
theorem aw_1 (Q : Exit → Act → World → Prop) (hQ : ∀ c a w n v, Q (.panic c) (a.put (some n) v) w → Q (.panic c) a w) (u : World) (z0 z6 z8 z9 z10 z11 z12 z13 z14 z15 z16 z17 z18 z19 z20 z21 z22 z23 z24 z25 z26 z27 z28 z29 z30 z31 z32 z33 z34 z35 z36 z37 z38 z39 z40 z41 z42 z43 z44 z45 z46 z47 z48 z49 z50 z51 z52 z53 z54 z55 z56 z57 z58 z59 z60 z61 z62 : Value) (h0 : SumOk) (f : Nat → Nat) (hf : Hid (f = mc [] [97])) (bk ga gb : Nat) (la : List Nat) (hl : Hid (la.length = 10)) (hx : ∀ x ∈ la, x < 256) (HG : Glob u) (HD : Blk u bk (vals .u8 64 f) 27) (RA : Rds u (some ⟨ga, 0, none⟩) la) (RB : Rds u (some ⟨gb, 0, none⟩) la) (H : ∀ (b1 : Nat) (b2 : Nat) (w : World), Below u.heap.size u w → Cel w b1 #[.int .u8 97] → u.heap.size ≤ b1 → Blk w b2 #[.slice (some ⟨b1, 0, none⟩) 1 1] 23 → Q .normal { tmps := List.toArray ((.bool true) :: (.pointer (some ⟨bk, 0, none⟩)) :: (.slice (some ⟨ga, 0, none⟩) 10 10) :: (.int .i64 0) :: (.slice (some ⟨gb, 0, none⟩) 100 100) :: (.int .i64 0) :: z6 :: (.int .i64 50) :: z8 :: z9 :: z10 :: z11 :: z12 :: z13 :: z14 :: z15 :: z16 :: z17 :: z18 :: z19 :: z20 :: z21 :: z22 :: z23 :: z24 :: z25 :: z26 :: z27 :: z28 :: z29 :: z30 :: z31 :: z32 :: z33 :: z34 :: z35 :: z36 :: (.agg (vals .u8 64 f)) :: (.slice (some ⟨b1, 0, none⟩) 1 1) :: (.slice (some ⟨b1, 0, none⟩) 1 1) :: (.slice (some ⟨b2, 0, none⟩) 1 1) :: (.agg (vals .u8 64 f)) :: (.bool true) :: (.bool true) :: (.int .i64 0) :: (.bool true) :: (.bool true) :: (.bool true) :: (.int .i64 0) :: (.bool true) :: (.bool true) :: (.bool true) :: (.slice (some ⟨ga, 0, none⟩) 10 10) :: (.string (sk la)) :: (.slice (some ⟨gb, 0, none⟩) 100 100) :: (.slice (some ⟨gb, 0, none⟩) 10 100) :: (.string (sk la)) :: (.bool true) :: (.bool true) :: (.bool true) :: (.int .i64 50) :: (.bool true) :: (.bool true) :: []), defers := [] } w) (b1 : Nat) (b2 : Nat) (w : World) (hS : Below u.heap.size u w) (c1 : Cel w b1 #[.int .u8 97]) (l1 : u.heap.size ≤ b1) (p2 : Blk w b2 #[.slice (some ⟨b1, 0, none⟩) 1 1] 23) :
    wpAnyH Tryd.prog .any awOps Q (fun w' => Below u.heap.size u w') 23 (List.toArray (true :: true :: true :: true :: false :: false :: false :: false :: false :: false :: false :: false :: false :: false :: false :: false :: false :: false :: false :: false :: false :: false :: false :: false :: false :: false :: false :: [])) { tmps := List.toArray (z0 :: (.pointer (some ⟨bk, 0, none⟩)) :: (.slice (some ⟨ga, 0, none⟩) 10 10) :: (.int .i64 0) :: (.slice (some ⟨gb, 0, none⟩) 100 100) :: (.int .i64 0) :: z6 :: (.int .i64 50) :: z8 :: z9 :: z10 :: z11 :: z12 :: z13 :: z14 :: z15 :: z16 :: z17 :: z18 :: z19 :: z20 :: z21 :: z22 :: z23 :: z24 :: z25 :: z26 :: z27 :: z28 :: z29 :: z30 :: z31 :: z32 :: z33 :: z34 :: z35 :: z36 :: (.agg (vals .u8 64 f)) :: (.slice (some ⟨b1, 0, none⟩) 1 1) :: (.slice (some ⟨b1, 0, none⟩) 1 1) :: (.slice (some ⟨b2, 0, none⟩) 1 1) :: z41 :: z42 :: z43 :: z44 :: z45 :: z46 :: z47 :: z48 :: z49 :: z50 :: z51 :: z52 :: z53 :: z54 :: z55 :: z56 :: z57 :: z58 :: z59 :: z60 :: z61 :: z62 :: []), defers := [] } w := by
  refine wpAnyH_ready (rs := [4]) (by kernel_rfl) (by simp) ?_
  refine AllReadyH.cons (o := awOp4) rfl (fun K hK => ?_) AllReadyH.nil
  unfold awOp4
  go_simp
  refine (mac_onef f h0 none (some ⟨b1, 0, none⟩) [] [97] hf.out 0 1 b2 23 _ w (by rfl) p2 (HG.low hS) (Or.inl rfl) (Nat.le_refl _) (fun x hx => by cases hx) (rds_lits [97] c1 rfl) (Nat.le_refl _) (by decide) (by decide) (by decide)).mono ?_
  rintro e x ⟨rfl, hb⟩
  dsimp only
  have hS' := keepCall hb rfl hS
  refine hK.out _ _ hS' (fun _ => ?_)
  clear hK K
  simp only [List.setIfInBounds_toArray, List.set_cons_zero, List.set_cons_succ]
  refine wpAnyH_take (i := 5) (oi := awOp5) (v := .bool true) rfl (by kernel_rfl) (by kernel_rfl) (by kernel_rfl) (fun _ _ _ => hQ _ _ _ _ _) (Or.inl ⟨by rfl, fun w hSw => by have hc := eq_self f w; unfold awOp5; go_simp⟩) hS' ?_
  try simp only [awOp5, Act.put, List.setIfInBounds_toArray, List.set_cons_zero, List.set_cons_succ]
  refine wpAnyH_take (i := 6) (oi := awOp6) (v := .bool true) rfl (by kernel_rfl) (by kernel_rfl) (by kernel_rfl) (fun _ _ _ => hQ _ _ _ _ _) (Or.inl ⟨by rfl, fun w hSw => by unfold awOp6; go_simp⟩) hS' ?_
  try simp only [awOp6, Act.put, List.setIfInBounds_toArray, List.set_cons_zero, List.set_cons_succ]
  refine wpAnyH_take (i := 7) (oi := awOp7) (v := .int .i64 0) rfl (by kernel_rfl) (by kernel_rfl) (by kernel_rfl) (fun _ _ _ => hQ _ _ _ _ _) (Or.inl ⟨by rfl, fun w hSw => by unfold awOp7; go_simp⟩) hS' ?_
  try simp only [awOp7, Act.put, List.setIfInBounds_toArray, List.set_cons_zero, List.set_cons_succ]
  refine wpAnyH_take (i := 8) (oi := awOp8) (v := .bool true) rfl (by kernel_rfl) (by kernel_rfl) (by kernel_rfl) (fun _ _ _ => hQ _ _ _ _ _) (Or.inl ⟨by rfl, fun w hSw => by unfold awOp8; go_simp⟩) hS' ?_
  try simp only [awOp8, Act.put, List.setIfInBounds_toArray, List.set_cons_zero, List.set_cons_succ]
  refine wpAnyH_take (i := 9) (oi := awOp9) (v := .bool true) rfl (by kernel_rfl) (by kernel_rfl) (by kernel_rfl) (fun _ _ _ => hQ _ _ _ _ _) (Or.inl ⟨by rfl, fun w hSw => by unfold awOp9; go_simp⟩) hS' ?_
  try simp only [awOp9, Act.put, List.setIfInBounds_toArray, List.set_cons_zero, List.set_cons_succ]
  refine wpAnyH_take (i := 10) (oi := awOp10) (v := .bool true) rfl (by kernel_rfl) (by kernel_rfl) (by kernel_rfl) (fun _ _ _ => hQ _ _ _ _ _) (Or.inl ⟨by rfl, fun w hSw => by unfold awOp10; go_simp⟩) hS' ?_
  try simp only [awOp10, Act.put, List.setIfInBounds_toArray, List.set_cons_zero, List.set_cons_succ]
  refine wpAnyH_take (i := 11) (oi := awOp11) (v := .int .i64 0) rfl (by kernel_rfl) (by kernel_rfl) (by kernel_rfl) (fun _ _ _ => hQ _ _ _ _ _) (Or.inl ⟨by rfl, fun w hSw => by unfold awOp11; go_simp⟩) hS' ?_
  try simp only [awOp11, Act.put, List.setIfInBounds_toArray, List.set_cons_zero, List.set_cons_succ]
  refine wpAnyH_take (i := 12) (oi := awOp12) (v := .bool true) rfl (by kernel_rfl) (by kernel_rfl) (by kernel_rfl) (fun _ _ _ => hQ _ _ _ _ _) (Or.inl ⟨by rfl, fun w hSw => by unfold awOp12; go_simp⟩) hS' ?_
  try simp only [awOp12, Act.put, List.setIfInBounds_toArray, List.set_cons_zero, List.set_cons_succ]
  refine wpAnyH_take (i := 13) (oi := awOp13) (v := .bool true) rfl (by kernel_rfl) (by kernel_rfl) (by kernel_rfl) (fun _ _ _ => hQ _ _ _ _ _) (Or.inl ⟨by rfl, fun w hSw => by unfold awOp13; go_simp⟩) hS' ?_
  try simp only [awOp13, Act.put, List.setIfInBounds_toArray, List.set_cons_zero, List.set_cons_succ]
  refine wpAnyH_take (i := 14) (oi := awOp14) (v := .bool true) rfl (by kernel_rfl) (by kernel_rfl) (by kernel_rfl) (fun _ _ _ => hQ _ _ _ _ _) (Or.inl ⟨by rfl, fun w hSw => by unfold awOp14; go_simp⟩) hS' ?_
  try simp only [awOp14, Act.put, List.setIfInBounds_toArray, List.set_cons_zero, List.set_cons_succ]
  refine wpAnyH_take (i := 15) (oi := awOp15) (v := .slice (some ⟨ga, 0, none⟩) 10 10) rfl (by kernel_rfl) (by kernel_rfl) (by kernel_rfl) (fun _ _ _ => hQ _ _ _ _ _) (Or.inl ⟨by rfl, fun w hSw => by unfold awOp15; go_simp⟩) hS' ?_
  try simp only [awOp15, Act.put, List.setIfInBounds_toArray, List.set_cons_zero, List.set_cons_succ]
  refine wpAnyH_take (i := 16) (oi := awOp16) (v := .string (sk la)) rfl (by kernel_rfl) (by kernel_rfl) (by kernel_rfl) (fun _ _ _ => hQ _ _ _ _ _) (Or.inl ⟨by rfl, fun w hSw => by have hc := conv_n w (some ⟨ga, 0, none⟩) la 10 10 hl.out (RA.low hSw) hx; unfold awOp16; go_simp⟩) hS' ?_
  try simp only [awOp16, Act.put, List.setIfInBounds_toArray, List.set_cons_zero, List.set_cons_succ]
  refine wpAnyH_take (i := 17) (oi := awOp17) (v := .slice (some ⟨gb, 0, none⟩) 100 100) rfl (by kernel_rfl) (by kernel_rfl) (by kernel_rfl) (fun _ _ _ => hQ _ _ _ _ _) (Or.inl ⟨by rfl, fun w hSw => by unfold awOp17; go_simp⟩) hS' ?_
  try simp only [awOp17, Act.put, List.setIfInBounds_toArray, List.set_cons_zero, List.set_cons_succ]
  refine wpAnyH_take (i := 18) (oi := awOp18) (v := .slice (some ⟨gb, 0, none⟩) 10 100) rfl (by kernel_rfl) (by kernel_rfl) (by kernel_rfl) (fun _ _ _ => hQ _ _ _ _ _) (Or.inl ⟨by rfl, fun w hSw => by unfold awOp18; go_simp⟩) hS' ?_
  try simp only [awOp18, Act.put, List.setIfInBounds_toArray, List.set_cons_zero, List.set_cons_succ]
  refine wpAnyH_take (i := 19) (oi := awOp19) (v := .string (sk la)) rfl (by kernel_rfl) (by kernel_rfl) (by kernel_rfl) (fun _ _ _ => hQ _ _ _ _ _) (Or.inl ⟨by rfl, fun w hSw => by have hc := conv_n w (some ⟨gb, 0, none⟩) la 10 100 hl.out (RB.low hSw) hx; unfold awOp19; go_simp⟩) hS' ?_
  try simp only [awOp19, Act.put, List.setIfInBounds_toArray, List.set_cons_zero, List.set_cons_succ]
  refine wpAnyH_take (i := 20) (oi := awOp20) (v := .bool true) rfl (by kernel_rfl) (by kernel_rfl) (by kernel_rfl) (fun _ _ _ => hQ _ _ _ _ _) (Or.inl ⟨by rfl, fun w hSw => by unfold awOp20; go_simp⟩) hS' ?_
  try simp only [awOp20, Act.put, List.setIfInBounds_toArray, List.set_cons_zero, List.set_cons_succ]
  refine wpAnyH_take (i := 21) (oi := awOp21) (v := .bool true) rfl (by kernel_rfl) (by kernel_rfl) (by kernel_rfl) (fun _ _ _ => hQ _ _ _ _ _) (Or.inl ⟨by rfl, fun w hSw => by unfold awOp21; go_simp⟩) hS' ?_
  try simp only [awOp21, Act.put, List.setIfInBounds_toArray, List.set_cons_zero, List.set_cons_succ]
  refine wpAnyH_take (i := 22) (oi := awOp22) (v := .bool true) rfl (by kernel_rfl) (by kernel_rfl) (by kernel_rfl) (fun _ _ _ => hQ _ _ _ _ _) (Or.inl ⟨by rfl, fun w hSw => by unfold awOp22; go_simp⟩) hS' ?_
  try simp only [awOp22, Act.put, List.setIfInBounds_toArray, List.set_cons_zero, List.set_cons_succ]
  refine wpAnyH_take (i := 23) (oi := awOp23) (v := .int .i64 50) rfl (by kernel_rfl) (by kernel_rfl) (by kernel_rfl) (fun _ _ _ => hQ _ _ _ _ _) (Or.inl ⟨by rfl, fun w hSw => by unfold awOp23; go_simp⟩) hS' ?_
  try simp only [awOp23, Act.put, List.setIfInBounds_toArray, List.set_cons_zero, List.set_cons_succ]
  refine wpAnyH_take (i := 24) (oi := awOp24) (v := .bool true) rfl (by kernel_rfl) (by kernel_rfl) (by kernel_rfl) (fun _ _ _ => hQ _ _ _ _ _) (Or.inl ⟨by rfl, fun w hSw => by unfold awOp24; go_simp⟩) hS' ?_
  try simp only [awOp24, Act.put, List.setIfInBounds_toArray, List.set_cons_zero, List.set_cons_succ]
  refine wpAnyH_take (i := 25) (oi := awOp25) (v := .bool true) rfl (by kernel_rfl) (by kernel_rfl) (by kernel_rfl) (fun _ _ _ => hQ _ _ _ _ _) (Or.inl ⟨by rfl, fun w hSw => by unfold awOp25; go_simp⟩) hS' ?_
  try simp only [awOp25, Act.put, List.setIfInBounds_toArray, List.set_cons_zero, List.set_cons_succ]
  refine wpAnyH_take (i := 26) (oi := awOp26) (v := .bool true) rfl (by kernel_rfl) (by kernel_rfl) (by kernel_rfl) (fun _ _ _ => hQ _ _ _ _ _) (Or.inl ⟨by rfl, fun w hSw => by unfold awOp26; go_simp⟩) hS' ?_
  try simp only [awOp26, Act.put, List.setIfInBounds_toArray, List.set_cons_zero, List.set_cons_succ]
  exact aw_0 Q hQ u z0 z6 z8 z9 z10 z11 z12 z13 z14 z15 z16 z17 z18 z19 z20 z21 z22 z23 z24 z25 z26 z27 z28 z29 z30 z31 z32 z33 z34 z35 z36 z37 z38 z39 z40 z41 z42 z43 z44 z45 z46 z47 z48 z49 z50 z51 z52 z53 z54 z55 z56 z57 z58 z59 z60 z61 z62 h0 f hf bk ga gb la hl hx HG HD RA RB H b1 b2 x hS' (c1.low hb) l1 (p2.low hb)
set_option maxRecDepth 100000 in
set_option maxHeartbeats 1000000 in
theorem aw_2 (Q : Exit → Act → World → Prop) (hQ : ∀ c a w n v, Q (.panic c) (a.put (some n) v) w → Q (.panic c) a w) (u : World) (z0 z6 z8 z9 z10 z11 z12 z13 z14 z15 z16 z17 z18 z19 z20 z21 z22 z23 z24 z25 z26 z27 z28 z29 z30 z31 z32 z33 z34 z35 z36 z37 z38 z39 z40 z41 z42 z43 z44 z45 z46 z47 z48 z49 z50 z51 z52 z53 z54 z55 z56 z57 z58 z59 z60 z61 z62 : Value) (h0 : SumOk) (f : Nat → Nat) (hf : Hid (f = mc [] [97])) (bk ga gb : Nat) (la : List Nat) (hl : Hid (la.length = 10)) (hx : ∀ x ∈ la, x < 256) (HG : Glob u) (HD : Blk u bk (vals .u8 64 f) 27) (RA : Rds u (some ⟨ga, 0, none⟩) la) (RB : Rds u (some ⟨gb, 0, none⟩) la) (H : ∀ (b1 : Nat) (b2 : Nat) (w : World), Below u.heap.size u w → Cel w b1 #[.int .u8 97] → u.heap.size ≤ b1 → Blk w b2 #[.slice (some ⟨b1, 0, none⟩) 1 1] 23 → Q .normal { tmps := List.toArray ((.bool true) :: (.pointer (some ⟨bk, 0, none⟩)) :: (.slice (some ⟨ga, 0, none⟩) 10 10) :: (.int .i64 0) :: (.slice (some ⟨gb, 0, none⟩) 100 100) :: (.int .i64 0) :: z6 :: (.int .i64 50) :: z8 :: z9 :: z10 :: z11 :: z12 :: z13 :: z14 :: z15 :: z16 :: z17 :: z18 :: z19 :: z20 :: z21 :: z22 :: z23 :: z24 :: z25 :: z26 :: z27 :: z28 :: z29 :: z30 :: z31 :: z32 :: z33 :: z34 :: z35 :: z36 :: (.agg (vals .u8 64 f)) :: (.slice (some ⟨b1, 0, none⟩) 1 1) :: (.slice (some ⟨b1, 0, none⟩) 1 1) :: (.slice (some ⟨b2, 0, none⟩) 1 1) :: (.agg (vals .u8 64 f)) :: (.bool true) :: (.bool true) :: (.int .i64 0) :: (.bool true) :: (.bool true) :: (.bool true) :: (.int .i64 0) :: (.bool true) :: (.bool true) :: (.bool true) :: (.slice (some ⟨ga, 0, none⟩) 10 10) :: (.string (sk la)) :: (.slice (some ⟨gb, 0, none⟩) 100 100) :: (.slice (some ⟨gb, 0, none⟩) 10 100) :: (.string (sk la)) :: (.bool true) :: (.bool true) :: (.bool true) :: (.int .i64 50) :: (.bool true) :: (.bool true) :: []), defers := [] } w) (b1 : Nat) (w : World) (hS : Below u.heap.size u w) (c1 : Cel w b1 #[.int .u8 97]) (l1 : u.heap.size ≤ b1) :
    wpAnyH Tryd.prog .any awOps Q (fun w' => Below u.heap.size u w') 24 (List.toArray (true :: true :: true :: false :: false :: false :: false :: false :: false :: false :: false :: false :: false :: false :: false :: false :: false :: false :: false :: false :: false :: false :: false :: false :: false :: false :: false :: [])) { tmps := List.toArray (z0 :: (.pointer (some ⟨bk, 0, none⟩)) :: (.slice (some ⟨ga, 0, none⟩) 10 10) :: (.int .i64 0) :: (.slice (some ⟨gb, 0, none⟩) 100 100) :: (.int .i64 0) :: z6 :: (.int .i64 50) :: z8 :: z9 :: z10 :: z11 :: z12 :: z13 :: z14 :: z15 :: z16 :: z17 :: z18 :: z19 :: z20 :: z21 :: z22 :: z23 :: z24 :: z25 :: z26 :: z27 :: z28 :: z29 :: z30 :: z31 :: z32 :: z33 :: z34 :: z35 :: z36 :: (.agg (vals .u8 64 f)) :: (.slice (some ⟨b1, 0, none⟩) 1 1) :: (.slice (some ⟨b1, 0, none⟩) 1 1) :: z40 :: z41 :: z42 :: z43 :: z44 :: z45 :: z46 :: z47 :: z48 :: z49 :: z50 :: z51 :: z52 :: z53 :: z54 :: z55 :: z56 :: z57 :: z58 :: z59 :: z60 :: z61 :: z62 :: []), defers := [] } w := by
  refine wpAnyH_ready (rs := [3]) (by kernel_rfl) (by simp) ?_
  refine AllReadyH.cons (o := awOp3) rfl (fun K hK => ?_) AllReadyH.nil
  have hb := (Below.refl w.heap.size w).alloc (Nat.le_refl _) (.cells (#[.slice (some ⟨b1, 0, none⟩) 1 1]) 23)
  have hS' := keepCall hb rfl hS
  obtain ⟨b2, eb2⟩ : ∃ b, b = w.heap.size := ⟨_, rfl⟩
  have p2 : Blk (w.alloc (.cells (#[.slice (some ⟨b1, 0, none⟩) 1 1]) 23)) b2 #[.slice (some ⟨b1, 0, none⟩) 1 1] 23 := by rw [eb2]; exact Blk.new w _ _
  unfold awOp3
  go_simp
  rw [← eb2]
  refine hK.out _ _ hS' (fun _ => ?_)
  clear hK K
  simp only [List.setIfInBounds_toArray, List.set_cons_zero, List.set_cons_succ]
  exact aw_1 Q hQ u z0 z6 z8 z9 z10 z11 z12 z13 z14 z15 z16 z17 z18 z19 z20 z21 z22 z23 z24 z25 z26 z27 z28 z29 z30 z31 z32 z33 z34 z35 z36 z37 z38 z39 z40 z41 z42 z43 z44 z45 z46 z47 z48 z49 z50 z51 z52 z53 z54 z55 z56 z57 z58 z59 z60 z61 z62 h0 f hf bk ga gb la hl hx HG HD RA RB H b1 b2 (w.alloc (.cells (#[.slice (some ⟨b1, 0, none⟩) 1 1]) 23)) hS' (c1.low hb) l1 p2
set_option maxRecDepth 100000 in
set_option maxHeartbeats 1000000 in
theorem aw_3 (Q : Exit → Act → World → Prop) (hQ : ∀ c a w n v, Q (.panic c) (a.put (some n) v) w → Q (.panic c) a w) (u : World) (z0 z6 z8 z9 z10 z11 z12 z13 z14 z15 z16 z17 z18 z19 z20 z21 z22 z23 z24 z25 z26 z27 z28 z29 z30 z31 z32 z33 z34 z35 z36 z37 z38 z39 z40 z41 z42 z43 z44 z45 z46 z47 z48 z49 z50 z51 z52 z53 z54 z55 z56 z57 z58 z59 z60 z61 z62 : Value) (h0 : SumOk) (f : Nat → Nat) (hf : Hid (f = mc [] [97])) (bk ga gb : Nat) (la : List Nat) (hl : Hid (la.length = 10)) (hx : ∀ x ∈ la, x < 256) (HG : Glob u) (HD : Blk u bk (vals .u8 64 f) 27) (RA : Rds u (some ⟨ga, 0, none⟩) la) (RB : Rds u (some ⟨gb, 0, none⟩) la) (H : ∀ (b1 : Nat) (b2 : Nat) (w : World), Below u.heap.size u w → Cel w b1 #[.int .u8 97] → u.heap.size ≤ b1 → Blk w b2 #[.slice (some ⟨b1, 0, none⟩) 1 1] 23 → Q .normal { tmps := List.toArray ((.bool true) :: (.pointer (some ⟨bk, 0, none⟩)) :: (.slice (some ⟨ga, 0, none⟩) 10 10) :: (.int .i64 0) :: (.slice (some ⟨gb, 0, none⟩) 100 100) :: (.int .i64 0) :: z6 :: (.int .i64 50) :: z8 :: z9 :: z10 :: z11 :: z12 :: z13 :: z14 :: z15 :: z16 :: z17 :: z18 :: z19 :: z20 :: z21 :: z22 :: z23 :: z24 :: z25 :: z26 :: z27 :: z28 :: z29 :: z30 :: z31 :: z32 :: z33 :: z34 :: z35 :: z36 :: (.agg (vals .u8 64 f)) :: (.slice (some ⟨b1, 0, none⟩) 1 1) :: (.slice (some ⟨b1, 0, none⟩) 1 1) :: (.slice (some ⟨b2, 0, none⟩) 1 1) :: (.agg (vals .u8 64 f)) :: (.bool true) :: (.bool true) :: (.int .i64 0) :: (.bool true) :: (.bool true) :: (.bool true) :: (.int .i64 0) :: (.bool true) :: (.bool true) :: (.bool true) :: (.slice (some ⟨ga, 0, none⟩) 10 10) :: (.string (sk la)) :: (.slice (some ⟨gb, 0, none⟩) 100 100) :: (.slice (some ⟨gb, 0, none⟩) 10 100) :: (.string (sk la)) :: (.bool true) :: (.bool true) :: (.bool true) :: (.int .i64 50) :: (.bool true) :: (.bool true) :: []), defers := [] } w) (b1 : Nat) (w : World) (hS : Below u.heap.size u w) (c1 : Cel w b1 #[.int .u8 97]) (l1 : u.heap.size ≤ b1) :
    wpAnyH Tryd.prog .any awOps Q (fun w' => Below u.heap.size u w') 25 (List.toArray (true :: true :: false :: false :: false :: false :: false :: false :: false :: false :: false :: false :: false :: false :: false :: false :: false :: false :: false :: false :: false :: false :: false :: false :: false :: false :: false :: [])) { tmps := List.toArray (z0 :: (.pointer (some ⟨bk, 0, none⟩)) :: (.slice (some ⟨ga, 0, none⟩) 10 10) :: (.int .i64 0) :: (.slice (some ⟨gb, 0, none⟩) 100 100) :: (.int .i64 0) :: z6 :: (.int .i64 50) :: z8 :: z9 :: z10 :: z11 :: z12 :: z13 :: z14 :: z15 :: z16 :: z17 :: z18 :: z19 :: z20 :: z21 :: z22 :: z23 :: z24 :: z25 :: z26 :: z27 :: z28 :: z29 :: z30 :: z31 :: z32 :: z33 :: z34 :: z35 :: z36 :: (.agg (vals .u8 64 f)) :: (.slice (some ⟨b1, 0, none⟩) 1 1) :: z39 :: z40 :: z41 :: z42 :: z43 :: z44 :: z45 :: z46 :: z47 :: z48 :: z49 :: z50 :: z51 :: z52 :: z53 :: z54 :: z55 :: z56 :: z57 :: z58 :: z59 :: z60 :: z61 :: z62 :: []), defers := [] } w := by
  refine wpAnyH_ready (rs := [2]) (by kernel_rfl) (by simp) ?_
  refine AllReadyH.cons (o := awOp2) rfl (fun K hK => ?_) AllReadyH.nil
  have hS' := Below.freeze hS (a := ⟨b1, (#[.int .u8 97] : Array Value).size, none⟩) l1
  unfold awOp2
  rw [if_pos (by rfl)]
  refine wp_conv22 _ rfl rfl c1 ?_
  refine hK.out _ _ hS' (fun _ => ?_)
  clear hK K
  simp only [Act.put, List.setIfInBounds_toArray, List.set_cons_zero, List.set_cons_succ]
  exact aw_2 Q hQ u z0 z6 z8 z9 z10 z11 z12 z13 z14 z15 z16 z17 z18 z19 z20 z21 z22 z23 z24 z25 z26 z27 z28 z29 z30 z31 z32 z33 z34 z35 z36 z37 z38 z39 z40 z41 z42 z43 z44 z45 z46 z47 z48 z49 z50 z51 z52 z53 z54 z55 z56 z57 z58 z59 z60 z61 z62 h0 f hf bk ga gb la hl hx HG HD RA RB H b1 (w.freeze ⟨b1, (#[.int .u8 97] : Array Value).size, none⟩ 1) hS' (c1.freeze _) l1
set_option maxRecDepth 100000 in
set_option maxHeartbeats 1000000 in
theorem aw_4 (Q : Exit → Act → World → Prop) (hQ : ∀ c a w n v, Q (.panic c) (a.put (some n) v) w → Q (.panic c) a w) (u : World) (z0 z6 z8 z9 z10 z11 z12 z13 z14 z15 z16 z17 z18 z19 z20 z21 z22 z23 z24 z25 z26 z27 z28 z29 z30 z31 z32 z33 z34 z35 z36 z37 z38 z39 z40 z41 z42 z43 z44 z45 z46 z47 z48 z49 z50 z51 z52 z53 z54 z55 z56 z57 z58 z59 z60 z61 z62 : Value) (h0 : SumOk) (f : Nat → Nat) (hf : Hid (f = mc [] [97])) (bk ga gb : Nat) (la : List Nat) (hl : Hid (la.length = 10)) (hx : ∀ x ∈ la, x < 256) (HG : Glob u) (HD : Blk u bk (vals .u8 64 f) 27) (RA : Rds u (some ⟨ga, 0, none⟩) la) (RB : Rds u (some ⟨gb, 0, none⟩) la) (H : ∀ (b1 : Nat) (b2 : Nat) (w : World), Below u.heap.size u w → Cel w b1 #[.int .u8 97] → u.heap.size ≤ b1 → Blk w b2 #[.slice (some ⟨b1, 0, none⟩) 1 1] 23 → Q .normal { tmps := List.toArray ((.bool true) :: (.pointer (some ⟨bk, 0, none⟩)) :: (.slice (some ⟨ga, 0, none⟩) 10 10) :: (.int .i64 0) :: (.slice (some ⟨gb, 0, none⟩) 100 100) :: (.int .i64 0) :: z6 :: (.int .i64 50) :: z8 :: z9 :: z10 :: z11 :: z12 :: z13 :: z14 :: z15 :: z16 :: z17 :: z18 :: z19 :: z20 :: z21 :: z22 :: z23 :: z24 :: z25 :: z26 :: z27 :: z28 :: z29 :: z30 :: z31 :: z32 :: z33 :: z34 :: z35 :: z36 :: (.agg (vals .u8 64 f)) :: (.slice (some ⟨b1, 0, none⟩) 1 1) :: (.slice (some ⟨b1, 0, none⟩) 1 1) :: (.slice (some ⟨b2, 0, none⟩) 1 1) :: (.agg (vals .u8 64 f)) :: (.bool true) :: (.bool true) :: (.int .i64 0) :: (.bool true) :: (.bool true) :: (.bool true) :: (.int .i64 0) :: (.bool true) :: (.bool true) :: (.bool true) :: (.slice (some ⟨ga, 0, none⟩) 10 10) :: (.string (sk la)) :: (.slice (some ⟨gb, 0, none⟩) 100 100) :: (.slice (some ⟨gb, 0, none⟩) 10 100) :: (.string (sk la)) :: (.bool true) :: (.bool true) :: (.bool true) :: (.int .i64 50) :: (.bool true) :: (.bool true) :: []), defers := [] } w) (w : World) (hS : Below u.heap.size u w) :
    wpAnyH Tryd.prog .any awOps Q (fun w' => Below u.heap.size u w') 26 (List.toArray (true :: false :: false :: false :: false :: false :: false :: false :: false :: false :: false :: false :: false :: false :: false :: false :: false :: false :: false :: false :: false :: false :: false :: false :: false :: false :: false :: [])) { tmps := List.toArray (z0 :: (.pointer (some ⟨bk, 0, none⟩)) :: (.slice (some ⟨ga, 0, none⟩) 10 10) :: (.int .i64 0) :: (.slice (some ⟨gb, 0, none⟩) 100 100) :: (.int .i64 0) :: z6 :: (.int .i64 50) :: z8 :: z9 :: z10 :: z11 :: z12 :: z13 :: z14 :: z15 :: z16 :: z17 :: z18 :: z19 :: z20 :: z21 :: z22 :: z23 :: z24 :: z25 :: z26 :: z27 :: z28 :: z29 :: z30 :: z31 :: z32 :: z33 :: z34 :: z35 :: z36 :: (.agg (vals .u8 64 f)) :: z38 :: z39 :: z40 :: z41 :: z42 :: z43 :: z44 :: z45 :: z46 :: z47 :: z48 :: z49 :: z50 :: z51 :: z52 :: z53 :: z54 :: z55 :: z56 :: z57 :: z58 :: z59 :: z60 :: z61 :: z62 :: []), defers := [] } w := by
  refine wpAnyH_ready (rs := [1]) (by kernel_rfl) (by simp) ?_
  refine AllReadyH.cons (o := awOp1) rfl (fun K hK => ?_) AllReadyH.nil
  have hb := (Below.refl w.heap.size w).alloc (Nat.le_refl _) (.cells (#[.int .u8 97]) 5)
  have hS' := keepCall hb rfl hS
  obtain ⟨b1, eb1⟩ : ∃ b, b = w.heap.size := ⟨_, rfl⟩
  have c1 : Cel (w.alloc (.cells (#[.int .u8 97]) 5)) b1 #[.int .u8 97] := by rw [eb1]; exact (Blk.new w _ _).cel
  have l1 : u.heap.size ≤ b1 := by rw [eb1]; exact hS.size
  unfold awOp1
  go_simp
  rw [← eb1]
  refine hK.out _ _ hS' (fun _ => ?_)
  clear hK K
  simp only [List.setIfInBounds_toArray, List.set_cons_zero, List.set_cons_succ]
  exact aw_3 Q hQ u z0 z6 z8 z9 z10 z11 z12 z13 z14 z15 z16 z17 z18 z19 z20 z21 z22 z23 z24 z25 z26 z27 z28 z29 z30 z31 z32 z33 z34 z35 z36 z37 z38 z39 z40 z41 z42 z43 z44 z45 z46 z47 z48 z49 z50 z51 z52 z53 z54 z55 z56 z57 z58 z59 z60 z61 z62 h0 f hf bk ga gb la hl hx HG HD RA RB H b1 (w.alloc (.cells (#[.int .u8 97]) 5)) hS' c1 l1
set_option maxRecDepth 100000 in
set_option maxHeartbeats 1000000 in
theorem aw_region (Q : Exit → Act → World → Prop) (hQ : ∀ c a w n v, Q (.panic c) (a.put (some n) v) w → Q (.panic c) a w) (u : World) (z0 z6 z8 z9 z10 z11 z12 z13 z14 z15 z16 z17 z18 z19 z20 z21 z22 z23 z24 z25 z26 z27 z28 z29 z30 z31 z32 z33 z34 z35 z36 z37 z38 z39 z40 z41 z42 z43 z44 z45 z46 z47 z48 z49 z50 z51 z52 z53 z54 z55 z56 z57 z58 z59 z60 z61 z62 : Value) (h0 : SumOk) (f : Nat → Nat) (hf : Hid (f = mc [] [97])) (bk ga gb : Nat) (la : List Nat) (hl : Hid (la.length = 10)) (hx : ∀ x ∈ la, x < 256) (HG : Glob u) (HD : Blk u bk (vals .u8 64 f) 27) (RA : Rds u (some ⟨ga, 0, none⟩) la) (RB : Rds u (some ⟨gb, 0, none⟩) la) (H : ∀ (b1 : Nat) (b2 : Nat) (w : World), Below u.heap.size u w → Cel w b1 #[.int .u8 97] → u.heap.size ≤ b1 → Blk w b2 #[.slice (some ⟨b1, 0, none⟩) 1 1] 23 → Q .normal { tmps := List.toArray ((.bool true) :: (.pointer (some ⟨bk, 0, none⟩)) :: (.slice (some ⟨ga, 0, none⟩) 10 10) :: (.int .i64 0) :: (.slice (some ⟨gb, 0, none⟩) 100 100) :: (.int .i64 0) :: z6 :: (.int .i64 50) :: z8 :: z9 :: z10 :: z11 :: z12 :: z13 :: z14 :: z15 :: z16 :: z17 :: z18 :: z19 :: z20 :: z21 :: z22 :: z23 :: z24 :: z25 :: z26 :: z27 :: z28 :: z29 :: z30 :: z31 :: z32 :: z33 :: z34 :: z35 :: z36 :: (.agg (vals .u8 64 f)) :: (.slice (some ⟨b1, 0, none⟩) 1 1) :: (.slice (some ⟨b1, 0, none⟩) 1 1) :: (.slice (some ⟨b2, 0, none⟩) 1 1) :: (.agg (vals .u8 64 f)) :: (.bool true) :: (.bool true) :: (.int .i64 0) :: (.bool true) :: (.bool true) :: (.bool true) :: (.int .i64 0) :: (.bool true) :: (.bool true) :: (.bool true) :: (.slice (some ⟨ga, 0, none⟩) 10 10) :: (.string (sk la)) :: (.slice (some ⟨gb, 0, none⟩) 100 100) :: (.slice (some ⟨gb, 0, none⟩) 10 100) :: (.string (sk la)) :: (.bool true) :: (.bool true) :: (.bool true) :: (.int .i64 50) :: (.bool true) :: (.bool true) :: []), defers := [] } w) :
    (Code.region 7 awOps true).wp Tryd.prog Q { tmps := List.toArray (z0 :: (.pointer (some ⟨bk, 0, none⟩)) :: (.slice (some ⟨ga, 0, none⟩) 10 10) :: (.int .i64 0) :: (.slice (some ⟨gb, 0, none⟩) 100 100) :: (.int .i64 0) :: z6 :: (.int .i64 50) :: z8 :: z9 :: z10 :: z11 :: z12 :: z13 :: z14 :: z15 :: z16 :: z17 :: z18 :: z19 :: z20 :: z21 :: z22 :: z23 :: z24 :: z25 :: z26 :: z27 :: z28 :: z29 :: z30 :: z31 :: z32 :: z33 :: z34 :: z35 :: z36 :: z37 :: z38 :: z39 :: z40 :: z41 :: z42 :: z43 :: z44 :: z45 :: z46 :: z47 :: z48 :: z49 :: z50 :: z51 :: z52 :: z53 :: z54 :: z55 :: z56 :: z57 :: z58 :: z59 :: z60 :: z61 :: z62 :: []), defers := [] } u := by
  refine wp_region_held_drew (S := (fun w' => Below u.heap.size u w')) (by kernel_rfl) (Below.refl _ _).drew (fun hS => ?_)
  refine wpAnyH_take (i := 0) (oi := awOp0) (v := .agg (vals .u8 64 f)) rfl (by kernel_rfl) (by kernel_rfl) (by kernel_rfl) (fun _ _ _ => hQ _ _ _ _ _) (yields_S (fun w' h => HD.call h) (by rfl) 27 _ rfl rfl _ Tryd.underlying27 rfl (by rw [vals_size]; exact cells24)) hS ?_
  try simp only [awOp0, Act.put, List.setIfInBounds_toArray, List.set_cons_zero, List.set_cons_succ]
  exact aw_4 Q hQ u z0 z6 z8 z9 z10 z11 z12 z13 z14 z15 z16 z17 z18 z19 z20 z21 z22 z23 z24 z25 z26 z27 z28 z29 z30 z31 z32 z33 z34 z35 z36 z37 z38 z39 z40 z41 z42 z43 z44 z45 z46 z47 z48 z49 z50 z51 z52 z53 z54 z55 z56 z57 z58 z59 z60 z61 z62 h0 f hf bk ga gb la hl hx HG HD RA RB H u.drew hS
end Go.Proofs.YtjnjedannpnjiaaDoor

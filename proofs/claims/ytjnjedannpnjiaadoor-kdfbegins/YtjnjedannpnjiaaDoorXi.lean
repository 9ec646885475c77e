/- KdfBegins' walk. -/
import Derived.Test.YtjnjedannpnjiaaDoorXn
namespace Go.Proofs.YtjnjedannpnjiaaDoor
open Go.RowKit

theorem rem1000 (n : Nat) : ∃ a : Nat, a < 1000 ∧ (n : Int).tmod 1000 = (a : Int) ∧ (n : Int) % 1000 = (a : Int) := ⟨n % 1000, Nat.mod_lt _ (by decide), by rw [Int.tmod_eq_emod_of_nonneg (by omega)]; omega, by omega⟩
theorem wrap_u16 (n : Nat) (h : n < 65536) : wrap64 (n : Int) = (n : Int) := by unfold wrap64; omega
def beOp0 : Oper := { dst := some 58, op := Op.move (Operand.tmp 9), type := 4, pos := "law.go:53", after := #[], guard := none }
def beOp1 : Oper := { dst := some 59, op := Op.move (Operand.tmp 58), type := 4, pos := "law.go:53", after := #[{ on := 0, ground := Ground.data }], guard := none }
def beOp2 : Oper := { dst := some 60, op := Op.move (Operand.tmp 13), type := 24, pos := "law.go:53", after := #[{ on := 1, ground := Ground.guard }], guard := some (1, true) }
def beOp3 : Oper := { dst := some 61, op := Op.binOp BinOp.eql 24 (Operand.tmp 60) (Operand.const (Value.int IntKind.i64 0)) 24, type := 4, pos := "law.go:53", after := #[{ on := 2, ground := Ground.data }, { on := 1, ground := Ground.guard }], guard := some (1, true) }
def beOp4 : Oper := { dst := some 62, op := Op.pick (Operand.tmp 59) (Operand.tmp 61) (Operand.const (Value.bool false)), type := 4, pos := "law.go:53", after := #[{ on := 1, ground := Ground.data }, { on := 3, ground := Ground.data }], guard := none }
def beOp5 : Oper := { dst := some 63, op := Op.move (Operand.tmp 62), type := 4, pos := "law.go:53", after := #[{ on := 4, ground := Ground.data }, { on := 1, ground := Ground.chain }], guard := none }
def beOp6 : Oper := { dst := some 64, op := Op.move (Operand.tmp 15), type := 24, pos := "law.go:53", after := #[{ on := 5, ground := Ground.guard }], guard := some (5, true) }
def beOp7 : Oper := { dst := some 65, op := Op.binOp BinOp.eql 24 (Operand.tmp 64) (Operand.const (Value.int IntKind.i64 0)) 24, type := 4, pos := "law.go:53", after := #[{ on := 6, ground := Ground.data }, { on := 5, ground := Ground.guard }], guard := some (5, true) }
def beOp8 : Oper := { dst := some 66, op := Op.pick (Operand.tmp 63) (Operand.tmp 65) (Operand.const (Value.bool false)), type := 4, pos := "law.go:53", after := #[{ on := 5, ground := Ground.data }, { on := 7, ground := Ground.data }], guard := none }
def beOp9 : Oper := { dst := some 67, op := Op.move (Operand.tmp 66), type := 4, pos := "law.go:53", after := #[{ on := 8, ground := Ground.data }, { on := 5, ground := Ground.chain }], guard := none }
def beOp10 : Oper := { dst := some 68, op := Op.move (Operand.tmp 12), type := 23, pos := "law.go:53", after := #[{ on := 9, ground := Ground.guard }], guard := some (9, true) }
def beOp11 : Oper := { dst := some 69, op := Op.convert 23 9 (Operand.tmp 68), type := 9, pos := "law.go:53", after := #[{ on := 10, ground := Ground.data }, { on := 9, ground := Ground.guard }], guard := some (9, true) }
def beOp12 : Oper := { dst := some 70, op := Op.move (Operand.tmp 14), type := 23, pos := "law.go:53", after := #[{ on := 9, ground := Ground.guard }], guard := some (9, true) }
def beOp13 : Oper := { dst := some 71, op := Op.move (Operand.tmp 10), type := 3, pos := "law.go:53", after := #[{ on := 9, ground := Ground.guard }], guard := some (9, true) }
def beOp14 : Oper := { dst := some 72, op := Op.slice 23 (Operand.tmp 70) none (some (Operand.tmp 71)) none, type := 23, pos := "law.go:53", after := #[{ on := 12, ground := Ground.data }, { on := 13, ground := Ground.data }, { on := 9, ground := Ground.guard }], guard := some (9, true) }
def beOp15 : Oper := { dst := some 73, op := Op.convert 23 9 (Operand.tmp 72), type := 9, pos := "law.go:53", after := #[{ on := 14, ground := Ground.data }, { on := 9, ground := Ground.guard }], guard := some (9, true) }
def beOp16 : Oper := { dst := some 74, op := Op.binOp BinOp.eql 9 (Operand.tmp 69) (Operand.tmp 73) 9, type := 4, pos := "law.go:53", after := #[{ on := 11, ground := Ground.data }, { on := 15, ground := Ground.data }, { on := 9, ground := Ground.guard }], guard := some (9, true) }
def beOp17 : Oper := { dst := some 75, op := Op.pick (Operand.tmp 67) (Operand.tmp 74) (Operand.const (Value.bool false)), type := 4, pos := "law.go:53", after := #[{ on := 9, ground := Ground.data }, { on := 16, ground := Ground.data }], guard := none }
def beOp18 : Oper := { dst := some 8, op := Op.assign (Operand.tmp 75), type := 4, pos := "law.go:53", after := #[{ on := 17, ground := Ground.data }, { on := 9, ground := Ground.chain }, { on := 0, ground := Ground.phase }, { on := 1, ground := Ground.phase }, { on := 2, ground := Ground.phase }, { on := 3, ground := Ground.phase }, { on := 4, ground := Ground.phase }, { on := 5, ground := Ground.phase }, { on := 6, ground := Ground.phase }, { on := 7, ground := Ground.phase }, { on := 8, ground := Ground.phase }, { on := 9, ground := Ground.phase }, { on := 10, ground := Ground.phase }, { on := 11, ground := Ground.phase }, { on := 12, ground := Ground.phase }, { on := 13, ground := Ground.phase }, { on := 14, ground := Ground.phase }, { on := 15, ground := Ground.phase }, { on := 16, ground := Ground.phase }, { on := 17, ground := Ground.phase }], guard := none }
def beOps : Array Oper := #[beOp0, beOp1, beOp2, beOp3, beOp4, beOp5, beOp6, beOp7, beOp8, beOp9, beOp10, beOp11, beOp12, beOp13, beOp14, beOp15, beOp16, beOp17, beOp18]
set_option maxRecDepth 100000 in
set_option maxHeartbeats 1000000 in
theorem be_0 (Q : Exit → Act → World → Prop) (hQ : ∀ c a w n v, Q (.panic c) (a.put (some n) v) w → Q (.panic c) a w) (u : World) (z0 z1 z2 z3 z4 z5 z6 z7 z8 z11 z16 z17 z18 z19 z20 z21 z22 z23 z24 z25 z26 z27 z28 z29 z30 z31 z32 z33 z34 z35 z36 z37 z38 z39 z40 z41 z42 z43 z44 z45 z46 z47 z48 z49 z50 z51 z52 z53 z54 z55 z56 z57 z58 z59 z60 z61 z62 z63 z64 z65 z66 z67 z68 z69 z70 z71 z72 z73 z74 z75 : Value) (ga gb a b : Nat) (hab : Hid (a ≤ b)) (la : List Nat) (hl : Hid (la.length = a)) (hx : ∀ x ∈ la, x < 256) (RA : Rds u (some ⟨ga, 0, none⟩) la) (RB : Rds u (some ⟨gb, 0, none⟩) la) (H : ∀ (w : World), Below u.heap.size u w → Q .normal { tmps := List.toArray (z0 :: z1 :: z2 :: z3 :: z4 :: z5 :: z6 :: z7 :: (.bool true) :: (.bool true) :: (.int .i64 (a : Int)) :: z11 :: (.slice (some ⟨ga, 0, none⟩) a a) :: (.int .i64 0) :: (.slice (some ⟨gb, 0, none⟩) b b) :: (.int .i64 0) :: z16 :: z17 :: z18 :: z19 :: z20 :: z21 :: z22 :: z23 :: z24 :: z25 :: z26 :: z27 :: z28 :: z29 :: z30 :: z31 :: z32 :: z33 :: z34 :: z35 :: z36 :: z37 :: z38 :: z39 :: z40 :: z41 :: z42 :: z43 :: z44 :: z45 :: z46 :: z47 :: z48 :: z49 :: z50 :: z51 :: z52 :: z53 :: z54 :: z55 :: z56 :: z57 :: (.bool true) :: (.bool true) :: (.int .i64 0) :: (.bool true) :: (.bool true) :: (.bool true) :: (.int .i64 0) :: (.bool true) :: (.bool true) :: (.bool true) :: (.slice (some ⟨ga, 0, none⟩) a a) :: (.string (sk la)) :: (.slice (some ⟨gb, 0, none⟩) b b) :: (.int .i64 (a : Int)) :: (.slice (some ⟨gb, 0, none⟩) a b) :: (.string (sk la)) :: (.bool true) :: (.bool true) :: []), defers := [] } w) (w : World) (hS : Below u.heap.size u w) :
    wpAnyH Tryd.prog .any beOps Q (fun w' => Below u.heap.size u w') 0 (List.toArray (true :: true :: true :: true :: true :: true :: true :: true :: true :: true :: true :: true :: true :: true :: true :: true :: true :: true :: true :: [])) { tmps := List.toArray (z0 :: z1 :: z2 :: z3 :: z4 :: z5 :: z6 :: z7 :: (.bool true) :: (.bool true) :: (.int .i64 (a : Int)) :: z11 :: (.slice (some ⟨ga, 0, none⟩) a a) :: (.int .i64 0) :: (.slice (some ⟨gb, 0, none⟩) b b) :: (.int .i64 0) :: z16 :: z17 :: z18 :: z19 :: z20 :: z21 :: z22 :: z23 :: z24 :: z25 :: z26 :: z27 :: z28 :: z29 :: z30 :: z31 :: z32 :: z33 :: z34 :: z35 :: z36 :: z37 :: z38 :: z39 :: z40 :: z41 :: z42 :: z43 :: z44 :: z45 :: z46 :: z47 :: z48 :: z49 :: z50 :: z51 :: z52 :: z53 :: z54 :: z55 :: z56 :: z57 :: (.bool true) :: (.bool true) :: (.int .i64 0) :: (.bool true) :: (.bool true) :: (.bool true) :: (.int .i64 0) :: (.bool true) :: (.bool true) :: (.bool true) :: (.slice (some ⟨ga, 0, none⟩) a a) :: (.string (sk la)) :: (.slice (some ⟨gb, 0, none⟩) b b) :: (.int .i64 (a : Int)) :: (.slice (some ⟨gb, 0, none⟩) a b) :: (.string (sk la)) :: (.bool true) :: (.bool true) :: []), defers := [] } w := by
  have _ := hQ
  have _ := u
  have _ := z0
  have _ := z1
  have _ := z2
  have _ := z3
  have _ := z4
  have _ := z5
  have _ := z6
  have _ := z7
  have _ := z8
  have _ := z11
  have _ := z16
  have _ := z17
  have _ := z18
  have _ := z19
  have _ := z20
  have _ := z21
  have _ := z22
  have _ := z23
  have _ := z24
  have _ := z25
  have _ := z26
  have _ := z27
  have _ := z28
  have _ := z29
  have _ := z30
  have _ := z31
  have _ := z32
  have _ := z33
  have _ := z34
  have _ := z35
  have _ := z36
  have _ := z37
  have _ := z38
  have _ := z39
  have _ := z40
  have _ := z41
  have _ := z42
  have _ := z43
  have _ := z44
  have _ := z45
  have _ := z46
  have _ := z47
  have _ := z48
  have _ := z49
  have _ := z50
  have _ := z51
  have _ := z52
  have _ := z53
  have _ := z54
  have _ := z55
  have _ := z56
  have _ := z57
  have _ := z58
  have _ := z59
  have _ := z60
  have _ := z61
  have _ := z62
  have _ := z63
  have _ := z64
  have _ := z65
  have _ := z66
  have _ := z67
  have _ := z68
  have _ := z69
  have _ := z70
  have _ := z71
  have _ := z72
  have _ := z73
  have _ := z74
  have _ := z75
  have _ := ga
  have _ := gb
  have _ := a
  have _ := b
  have _ := hab
  have _ := la
  have _ := hl
  have _ := hx
  have _ := RA
  have _ := RB
  exact wpAnyH_done (by kernel_rfl) (H  w hS ) _
set_option maxRecDepth 100000 in
set_option maxHeartbeats 1000000 in
theorem be_region (Q : Exit → Act → World → Prop) (hQ : ∀ c a w n v, Q (.panic c) (a.put (some n) v) w → Q (.panic c) a w) (u : World) (z0 z1 z2 z3 z4 z5 z6 z7 z8 z11 z16 z17 z18 z19 z20 z21 z22 z23 z24 z25 z26 z27 z28 z29 z30 z31 z32 z33 z34 z35 z36 z37 z38 z39 z40 z41 z42 z43 z44 z45 z46 z47 z48 z49 z50 z51 z52 z53 z54 z55 z56 z57 z58 z59 z60 z61 z62 z63 z64 z65 z66 z67 z68 z69 z70 z71 z72 z73 z74 z75 : Value) (ga gb a b : Nat) (hab : Hid (a ≤ b)) (la : List Nat) (hl : Hid (la.length = a)) (hx : ∀ x ∈ la, x < 256) (RA : Rds u (some ⟨ga, 0, none⟩) la) (RB : Rds u (some ⟨gb, 0, none⟩) la) (H : ∀ (w : World), Below u.heap.size u w → Q .normal { tmps := List.toArray (z0 :: z1 :: z2 :: z3 :: z4 :: z5 :: z6 :: z7 :: (.bool true) :: (.bool true) :: (.int .i64 (a : Int)) :: z11 :: (.slice (some ⟨ga, 0, none⟩) a a) :: (.int .i64 0) :: (.slice (some ⟨gb, 0, none⟩) b b) :: (.int .i64 0) :: z16 :: z17 :: z18 :: z19 :: z20 :: z21 :: z22 :: z23 :: z24 :: z25 :: z26 :: z27 :: z28 :: z29 :: z30 :: z31 :: z32 :: z33 :: z34 :: z35 :: z36 :: z37 :: z38 :: z39 :: z40 :: z41 :: z42 :: z43 :: z44 :: z45 :: z46 :: z47 :: z48 :: z49 :: z50 :: z51 :: z52 :: z53 :: z54 :: z55 :: z56 :: z57 :: (.bool true) :: (.bool true) :: (.int .i64 0) :: (.bool true) :: (.bool true) :: (.bool true) :: (.int .i64 0) :: (.bool true) :: (.bool true) :: (.bool true) :: (.slice (some ⟨ga, 0, none⟩) a a) :: (.string (sk la)) :: (.slice (some ⟨gb, 0, none⟩) b b) :: (.int .i64 (a : Int)) :: (.slice (some ⟨gb, 0, none⟩) a b) :: (.string (sk la)) :: (.bool true) :: (.bool true) :: []), defers := [] } w) :
    (Code.region 10 beOps true).wp Tryd.prog Q { tmps := List.toArray (z0 :: z1 :: z2 :: z3 :: z4 :: z5 :: z6 :: z7 :: z8 :: (.bool true) :: (.int .i64 (a : Int)) :: z11 :: (.slice (some ⟨ga, 0, none⟩) a a) :: (.int .i64 0) :: (.slice (some ⟨gb, 0, none⟩) b b) :: (.int .i64 0) :: z16 :: z17 :: z18 :: z19 :: z20 :: z21 :: z22 :: z23 :: z24 :: z25 :: z26 :: z27 :: z28 :: z29 :: z30 :: z31 :: z32 :: z33 :: z34 :: z35 :: z36 :: z37 :: z38 :: z39 :: z40 :: z41 :: z42 :: z43 :: z44 :: z45 :: z46 :: z47 :: z48 :: z49 :: z50 :: z51 :: z52 :: z53 :: z54 :: z55 :: z56 :: z57 :: z58 :: z59 :: z60 :: z61 :: z62 :: z63 :: z64 :: z65 :: z66 :: z67 :: z68 :: z69 :: z70 :: z71 :: z72 :: z73 :: z74 :: z75 :: []), defers := [] } u := by
  refine wp_region_held_drew (S := (fun w' => Below u.heap.size u w')) (by kernel_rfl) (Below.refl _ _).drew (fun hS => ?_)
  refine wpAnyH_take (i := 0) (oi := beOp0) (v := .bool true) rfl (by kernel_rfl) (by kernel_rfl) (by kernel_rfl) (fun _ _ _ => hQ _ _ _ _ _) (Or.inl ⟨by rfl, fun w hSw => by unfold beOp0; go_simp⟩) hS ?_
  try simp only [beOp0, Act.put, List.setIfInBounds_toArray, List.set_cons_zero, List.set_cons_succ]
  refine wpAnyH_take (i := 1) (oi := beOp1) (v := .bool true) rfl (by kernel_rfl) (by kernel_rfl) (by kernel_rfl) (fun _ _ _ => hQ _ _ _ _ _) (Or.inl ⟨by rfl, fun w hSw => by unfold beOp1; go_simp⟩) hS ?_
  try simp only [beOp1, Act.put, List.setIfInBounds_toArray, List.set_cons_zero, List.set_cons_succ]
  refine wpAnyH_take (i := 2) (oi := beOp2) (v := .int .i64 0) rfl (by kernel_rfl) (by kernel_rfl) (by kernel_rfl) (fun _ _ _ => hQ _ _ _ _ _) (Or.inl ⟨by rfl, fun w hSw => by unfold beOp2; go_simp⟩) hS ?_
  try simp only [beOp2, Act.put, List.setIfInBounds_toArray, List.set_cons_zero, List.set_cons_succ]
  refine wpAnyH_take (i := 3) (oi := beOp3) (v := .bool true) rfl (by kernel_rfl) (by kernel_rfl) (by kernel_rfl) (fun _ _ _ => hQ _ _ _ _ _) (Or.inl ⟨by rfl, fun w hSw => by unfold beOp3; go_simp⟩) hS ?_
  try simp only [beOp3, Act.put, List.setIfInBounds_toArray, List.set_cons_zero, List.set_cons_succ]
  refine wpAnyH_take (i := 4) (oi := beOp4) (v := .bool true) rfl (by kernel_rfl) (by kernel_rfl) (by kernel_rfl) (fun _ _ _ => hQ _ _ _ _ _) (Or.inl ⟨by rfl, fun w hSw => by unfold beOp4; go_simp⟩) hS ?_
  try simp only [beOp4, Act.put, List.setIfInBounds_toArray, List.set_cons_zero, List.set_cons_succ]
  refine wpAnyH_take (i := 5) (oi := beOp5) (v := .bool true) rfl (by kernel_rfl) (by kernel_rfl) (by kernel_rfl) (fun _ _ _ => hQ _ _ _ _ _) (Or.inl ⟨by rfl, fun w hSw => by unfold beOp5; go_simp⟩) hS ?_
  try simp only [beOp5, Act.put, List.setIfInBounds_toArray, List.set_cons_zero, List.set_cons_succ]
  refine wpAnyH_take (i := 6) (oi := beOp6) (v := .int .i64 0) rfl (by kernel_rfl) (by kernel_rfl) (by kernel_rfl) (fun _ _ _ => hQ _ _ _ _ _) (Or.inl ⟨by rfl, fun w hSw => by unfold beOp6; go_simp⟩) hS ?_
  try simp only [beOp6, Act.put, List.setIfInBounds_toArray, List.set_cons_zero, List.set_cons_succ]
  refine wpAnyH_take (i := 7) (oi := beOp7) (v := .bool true) rfl (by kernel_rfl) (by kernel_rfl) (by kernel_rfl) (fun _ _ _ => hQ _ _ _ _ _) (Or.inl ⟨by rfl, fun w hSw => by unfold beOp7; go_simp⟩) hS ?_
  try simp only [beOp7, Act.put, List.setIfInBounds_toArray, List.set_cons_zero, List.set_cons_succ]
  refine wpAnyH_take (i := 8) (oi := beOp8) (v := .bool true) rfl (by kernel_rfl) (by kernel_rfl) (by kernel_rfl) (fun _ _ _ => hQ _ _ _ _ _) (Or.inl ⟨by rfl, fun w hSw => by unfold beOp8; go_simp⟩) hS ?_
  try simp only [beOp8, Act.put, List.setIfInBounds_toArray, List.set_cons_zero, List.set_cons_succ]
  refine wpAnyH_take (i := 9) (oi := beOp9) (v := .bool true) rfl (by kernel_rfl) (by kernel_rfl) (by kernel_rfl) (fun _ _ _ => hQ _ _ _ _ _) (Or.inl ⟨by rfl, fun w hSw => by unfold beOp9; go_simp⟩) hS ?_
  try simp only [beOp9, Act.put, List.setIfInBounds_toArray, List.set_cons_zero, List.set_cons_succ]
  refine wpAnyH_take (i := 10) (oi := beOp10) (v := .slice (some ⟨ga, 0, none⟩) a a) rfl (by kernel_rfl) (by kernel_rfl) (by kernel_rfl) (fun _ _ _ => hQ _ _ _ _ _) (Or.inl ⟨by rfl, fun w hSw => by unfold beOp10; go_simp⟩) hS ?_
  try simp only [beOp10, Act.put, List.setIfInBounds_toArray, List.set_cons_zero, List.set_cons_succ]
  refine wpAnyH_take (i := 11) (oi := beOp11) (v := .string (sk la)) rfl (by kernel_rfl) (by kernel_rfl) (by kernel_rfl) (fun _ _ _ => hQ _ _ _ _ _) (Or.inl ⟨by rfl, fun w hSw => by have hc := conv_n w (some ⟨ga, 0, none⟩) la a a hl.out (RA.low hSw) hx; unfold beOp11; go_simp⟩) hS ?_
  try simp only [beOp11, Act.put, List.setIfInBounds_toArray, List.set_cons_zero, List.set_cons_succ]
  refine wpAnyH_take (i := 12) (oi := beOp12) (v := .slice (some ⟨gb, 0, none⟩) b b) rfl (by kernel_rfl) (by kernel_rfl) (by kernel_rfl) (fun _ _ _ => hQ _ _ _ _ _) (Or.inl ⟨by rfl, fun w hSw => by unfold beOp12; go_simp⟩) hS ?_
  try simp only [beOp12, Act.put, List.setIfInBounds_toArray, List.set_cons_zero, List.set_cons_succ]
  refine wpAnyH_take (i := 13) (oi := beOp13) (v := .int .i64 (a : Int)) rfl (by kernel_rfl) (by kernel_rfl) (by kernel_rfl) (fun _ _ _ => hQ _ _ _ _ _) (Or.inl ⟨by rfl, fun w hSw => by unfold beOp13; go_simp⟩) hS ?_
  try simp only [beOp13, Act.put, List.setIfInBounds_toArray, List.set_cons_zero, List.set_cons_succ]
  refine wpAnyH_take (i := 14) (oi := beOp14) (v := .slice (some ⟨gb, 0, none⟩) a b) rfl (by kernel_rfl) (by kernel_rfl) (by kernel_rfl) (fun _ _ _ => hQ _ _ _ _ _) (Or.inl ⟨by rfl, fun w hSw => by have hc := run_top (some ⟨gb, 0, none⟩) b b a hab.out w; unfold beOp14; go_simp⟩) hS ?_
  try simp only [beOp14, Act.put, List.setIfInBounds_toArray, List.set_cons_zero, List.set_cons_succ]
  refine wpAnyH_take (i := 15) (oi := beOp15) (v := .string (sk la)) rfl (by kernel_rfl) (by kernel_rfl) (by kernel_rfl) (fun _ _ _ => hQ _ _ _ _ _) (Or.inl ⟨by rfl, fun w hSw => by have hc := conv_n w (some ⟨gb, 0, none⟩) la a b hl.out (RB.low hSw) hx; unfold beOp15; go_simp⟩) hS ?_
  try simp only [beOp15, Act.put, List.setIfInBounds_toArray, List.set_cons_zero, List.set_cons_succ]
  refine wpAnyH_take (i := 16) (oi := beOp16) (v := .bool true) rfl (by kernel_rfl) (by kernel_rfl) (by kernel_rfl) (fun _ _ _ => hQ _ _ _ _ _) (Or.inl ⟨by rfl, fun w hSw => by unfold beOp16; go_simp⟩) hS ?_
  try simp only [beOp16, Act.put, List.setIfInBounds_toArray, List.set_cons_zero, List.set_cons_succ]
  refine wpAnyH_take (i := 17) (oi := beOp17) (v := .bool true) rfl (by kernel_rfl) (by kernel_rfl) (by kernel_rfl) (fun _ _ _ => hQ _ _ _ _ _) (Or.inl ⟨by rfl, fun w hSw => by unfold beOp17; go_simp⟩) hS ?_
  try simp only [beOp17, Act.put, List.setIfInBounds_toArray, List.set_cons_zero, List.set_cons_succ]
  refine wpAnyH_take (i := 18) (oi := beOp18) (v := .bool true) rfl (by kernel_rfl) (by kernel_rfl) (by kernel_rfl) (fun _ _ _ => hQ _ _ _ _ _) (Or.inl ⟨by rfl, fun w hSw => by unfold beOp18; go_simp⟩) hS ?_
  try simp only [beOp18, Act.put, List.setIfInBounds_toArray, List.set_cons_zero, List.set_cons_succ]
  exact be_0 Q hQ u z0 z1 z2 z3 z4 z5 z6 z7 z8 z11 z16 z17 z18 z19 z20 z21 z22 z23 z24 z25 z26 z27 z28 z29 z30 z31 z32 z33 z34 z35 z36 z37 z38 z39 z40 z41 z42 z43 z44 z45 z46 z47 z48 z49 z50 z51 z52 z53 z54 z55 z56 z57 z58 z59 z60 z61 z62 z63 z64 z65 z66 z67 z68 z69 z70 z71 z72 z73 z74 z75 ga gb a b hab la hl hx RA RB H u.drew hS
set_option maxRecDepth 100000 in
set_option maxHeartbeats 4000000 in
theorem begins_walk (h0 : SumOk) (A C : Option Addr) (k u : List Nat) (ca cc n m : Nat) (w : World) (hG : Glob w) (hA : Rds w A k) (hca : k.length ≤ ca) (hk : ∀ x ∈ k, x < 256) (hC : Rds w C u) (hcc : u.length ≤ cc) (hu : ∀ x ∈ u, x < 256) (hn : n < 65536) (hm : m < 65536) :
    Calls Tryd.prog 5 #[.slice A k.length ca, .slice C u.length cc, .int .u16 (n : Int), .int .u16 (m : Int)] w fun e w' => e = .returned (.bool true) ∧ Below w.heap.size w w' := by
  have Hn := hide hn
  have Hm := hide hm
  clear hn hm
  have H0 := hide h0
  have HG := hide hG
  have HA := hide hA
  have Hca := hide hca
  have Hk := hide hk
  have HC := hide hC
  have Hcc := hide hcc
  have Hu := hide hu
  clear h0 hG hA hca hk hC hcc hu
  go_enter Tryd.func5, Tryd.ntmps5
  go_upto_region 2 with (go_at_call 9; refine (awake_at H0.out _ _ rfl HG.out).mono ?_; rintro e w1 ⟨rfl, hb⟩; have L1 := hide hb; clear hb; dsimp only)
  by_cases hlk : 500 < k.length
  · have hi : (500 : Int) < (k.length : Int) := by omega
    go_wp2
    go_ret
    exact ⟨rfl, L1.out⟩
  have hi : ¬ (500 : Int) < (k.length : Int) := by omega
  have Hlk := hide hlk
  clear hlk
  by_cases hll : 500 < u.length
  · have hj : (500 : Int) < (u.length : Int) := by omega
    go_wp2
    go_ret
    exact ⟨rfl, L1.out⟩
  have hj : ¬ (500 : Int) < (u.length : Int) := by omega
  have Hll := hide hll
  clear hll
  have hw1 := wrap_u16 n Hn.out
  have hw2 := wrap_u16 m Hm.out
  obtain ⟨a, ha, ht1, ht3⟩ := rem1000 n
  obtain ⟨r, hr, ht2, ht4⟩ := rem1000 m
  obtain ⟨b, hb⟩ : ∃ b, b = a + r := ⟨_, rfl⟩
  have hv1 : IntKind.i64.wrap (a : Int) = (a : Int) := wrap_small _ (by omega) (by omega)
  have hv2 : IntKind.i64.wrap (r : Int) = (r : Int) := wrap_small _ (by omega) (by omega)
  have hv3 : IntKind.i64.wrap ((a : Int) + (r : Int)) = (b : Int) := by rw [wrap_small _ (by omega) (by omega)]; omega
  have Hab : Hid (a ≤ b) := hide (by omega)
  have Ha : Hid (a ≤ 16320) := hide (by omega)
  have Hb : Hid (b ≤ 16320) := hide (by omega)
  obtain ⟨la, hla⟩ : ∃ la, la = xp k u a := ⟨_, rfl⟩
  obtain ⟨lb, hlb⟩ : ∃ lb, lb = xp k u b := ⟨_, rfl⟩
  have E : Hid (lb.take a = la) := hide (by rw [hla, hlb]; exact xp_begins k u a b Hab.out)
  have NA : Hid (la.length = a) := hide (by rw [hla, xp_len])
  have XA : Hid (∀ x ∈ la, x < 256) := hide (by rw [hla]; exact xp_lt k u a)
  have HLA := hide hla
  have HLB := hide hlb
  clear ha hr hb hla hlb
  go_upto_region 6 with (fail)
  clear hw1 hw2 ht1 ht2 ht3 ht4 hv1 hv2 hv3
  go_upto_region 7 with (go_at_call 10; refine (expand_rds H0.out A C k u la ca cc a _ _ rfl HLA.out Ha.out (HG.out.low L1.out) (HA.out.low L1.out) Hca.out Hk.out (HC.out.low L1.out) Hcc.out Hu.out (by have := Hlk.out; omega) (by have := Hll.out; omega)).mono ?_; rintro e k2 ⟨ga, rfl, hR, hb⟩; have R2 := hide hR; have L2 := hide (keepLow2 L1.out hb); clear hb hR L1; dsimp only)
  go_upto_region 10 with (go_at_call 10; refine (expand_rds H0.out A C k u lb ca cc b _ _ rfl HLB.out Hb.out (HG.out.low L2.out) (HA.out.low L2.out) Hca.out Hk.out (HC.out.low L2.out) Hcc.out Hu.out (by have := Hlk.out; omega) (by have := Hll.out; omega)).mono ?_; rintro e k3 ⟨gb, rfl, hR, hb⟩; have R3 := hide (R2.out.low hb); have S3 := hide (hR.take a); have L3 := hide (keepLow2 L2.out hb); clear hb hR L2 R2; dsimp only)
  rw [E.out] at S3
  refine be_region _ (fun _ _ _ _ _ h => h) k3 _ _ _ _ _ _ _ _ _ _ _ _ _ _ _ _ _ _ _ _ _ _ _ _ _ _ _ _ _ _ _ _ _ _ _ _ _ _ _ _ _ _ _ _ _ _ _ _ _ _ _ _ _ _ _ _ _ _ _ _ _ _ _ _ _ _ _ _ _ _ ga gb a b Hab la NA XA.out R3.out S3.out ?_
  intro w9 hS9
  have L9 := hide (keepLow2 L3.out hS9)
  clear hS9
  go_wp2
  go_ret
  exact ⟨rfl, L9.out⟩
end Go.Proofs.YtjnjedannpnjiaaDoor

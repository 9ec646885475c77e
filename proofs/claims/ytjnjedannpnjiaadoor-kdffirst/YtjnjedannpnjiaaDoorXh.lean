/- KdfFirst's walk. -/
import Derived.Test.YtjnjedannpnjiaaDoorXn
namespace Go.Proofs.YtjnjedannpnjiaaDoor
open Go.RowKit

theorem cut64 (gb : Nat) (w : World) : (Instr.slice 23 (.slice (some ⟨gb, 0, none⟩) 128 128) (some (.int .i64 64)) none none).run Tryd.prog w = .ok (.slice (some ⟨gb, 64, none⟩) 64 64) w := run_cut (some ⟨gb, 0, none⟩) 128 128 64 (by omega) w
theorem mac_two (f : Nat → Nat) (h0 : SumOk) (A C : Option Addr) (k u : List Nat) (c : Nat) (hf : f = mc k (u ++ [c])) (ca cc bc b : Nat) (t t2 : TypeId) (args : Array Value) (w : World) (h : args = #[.slice A k.length ca, .slice (some ⟨b, 0, none⟩) 2 2]) (hB : Blk w b #[.slice C u.length cc, .slice (some ⟨bc, 0, none⟩) 1 1] t) (hC : Blk w bc #[.int .u8 c] t2) (hG : Glob w) (hA : Rds w A k) (hca : k.length ≤ ca) (hk : ∀ x ∈ k, x < 256) (hRC : Rds w C u) (hcc : u.length ≤ cc) (hu : ∀ x ∈ u, x < 256) (hc : c < 256) (hs : k.length < 2 ^ 29) (hs2 : u.length < 2 ^ 28) :
    Calls Tryd.prog 14 args w fun e w' => e = .returned (.agg (vals .u8 64 f)) ∧ Below w.heap.size w w' := by
  have e : cat [(C, u, cc), (some ⟨bc, 0, none⟩, [c], 1)] = u ++ [c] := by simp [cat]
  have := h0 A k ca (some ⟨b, 0, none⟩) [(C, u, cc), (some ⟨bc, 0, none⟩, [c], 1)] 2 args w h hG hA hca hk (prt_blk hB _ fun i q hq => by
    rcases i with _ | _ | i
    · obtain rfl := Option.some.inj hq; rfl
    · obtain rfl := Option.some.inj hq; rfl
    · cases hq) (fun q hq => by
    rcases List.mem_cons.1 hq with rfl | hq
    · exact ⟨hRC, hcc, hu⟩
    · obtain rfl : q = (some ⟨bc, 0, none⟩, [c], 1) := by simpa using hq
      refine ⟨rds_blk hC [c] fun i x hx => ?_, Nat.le_refl _, fun x hx => ?_⟩
      · rcases i with _ | i
        · obtain rfl := Option.some.inj hx; rfl
        · cases hx
      · obtain rfl : x = c := by simpa using hx
        exact hc) hs (by rw [e, List.length_append]; simp; omega) (by simp)
  rw [e, ← hf] at this
  exact this
def fiOp0 : Oper := { dst := some 40, op := Op.move (Operand.tmp 5), type := 4, pos := "law.go:84", after := #[], guard := none }
def fiOp1 : Oper := { dst := some 41, op := Op.move (Operand.tmp 40), type := 4, pos := "law.go:84", after := #[{ on := 0, ground := Ground.data }], guard := none }
def fiOp2 : Oper := { dst := some 42, op := Op.move (Operand.tmp 7), type := 24, pos := "law.go:84", after := #[{ on := 1, ground := Ground.guard }], guard := some (1, true) }
def fiOp3 : Oper := { dst := some 43, op := Op.binOp BinOp.eql 24 (Operand.tmp 42) (Operand.const (Value.int IntKind.i64 0)) 24, type := 4, pos := "law.go:84", after := #[{ on := 2, ground := Ground.data }, { on := 1, ground := Ground.guard }], guard := some (1, true) }
def fiOp4 : Oper := { dst := some 44, op := Op.pick (Operand.tmp 41) (Operand.tmp 43) (Operand.const (Value.bool false)), type := 4, pos := "law.go:84", after := #[{ on := 1, ground := Ground.data }, { on := 3, ground := Ground.data }], guard := none }
def fiOp5 : Oper := { dst := some 45, op := Op.move (Operand.tmp 44), type := 4, pos := "law.go:84", after := #[{ on := 4, ground := Ground.data }, { on := 1, ground := Ground.chain }], guard := none }
def fiOp6 : Oper := { dst := some 46, op := Op.move (Operand.tmp 6), type := 23, pos := "law.go:84", after := #[{ on := 5, ground := Ground.guard }], guard := some (5, true) }
def fiOp7 : Oper := { dst := some 47, op := Op.slice 23 (Operand.tmp 46) none (some (Operand.const (Value.int IntKind.i64 64))) none, type := 23, pos := "law.go:84", after := #[{ on := 6, ground := Ground.data }, { on := 5, ground := Ground.guard }], guard := some (5, true) }
def fiOp8 : Oper := { dst := some 48, op := Op.convert 23 9 (Operand.tmp 47), type := 9, pos := "law.go:84", after := #[{ on := 7, ground := Ground.data }, { on := 5, ground := Ground.guard }], guard := some (5, true) }
def fiOp9 : Oper := { dst := some 49, op := Op.slice 27 (Operand.tmp 8) none none none, type := 23, pos := "law.go:84", after := #[{ on := 5, ground := Ground.guard }], guard := some (5, true) }
def fiOp10 : Oper := { dst := some 50, op := Op.convert 23 9 (Operand.tmp 49), type := 9, pos := "law.go:84", after := #[{ on := 9, ground := Ground.data }, { on := 5, ground := Ground.guard }], guard := some (5, true) }
def fiOp11 : Oper := { dst := some 51, op := Op.binOp BinOp.eql 9 (Operand.tmp 48) (Operand.tmp 50) 9, type := 4, pos := "law.go:84", after := #[{ on := 8, ground := Ground.data }, { on := 10, ground := Ground.data }, { on := 5, ground := Ground.guard }], guard := some (5, true) }
def fiOp12 : Oper := { dst := some 52, op := Op.pick (Operand.tmp 45) (Operand.tmp 51) (Operand.const (Value.bool false)), type := 4, pos := "law.go:84", after := #[{ on := 5, ground := Ground.data }, { on := 11, ground := Ground.data }], guard := none }
def fiOp13 : Oper := { dst := some 53, op := Op.move (Operand.tmp 52), type := 4, pos := "law.go:84", after := #[{ on := 12, ground := Ground.data }, { on := 5, ground := Ground.chain }], guard := none }
def fiOp14 : Oper := { dst := some 54, op := Op.move (Operand.tmp 6), type := 23, pos := "law.go:84", after := #[{ on := 13, ground := Ground.guard }], guard := some (13, true) }
def fiOp15 : Oper := { dst := some 55, op := Op.slice 23 (Operand.tmp 54) (some (Operand.const (Value.int IntKind.i64 64))) none none, type := 23, pos := "law.go:84", after := #[{ on := 14, ground := Ground.data }, { on := 13, ground := Ground.guard }], guard := some (13, true) }
def fiOp16 : Oper := { dst := some 56, op := Op.convert 23 9 (Operand.tmp 55), type := 9, pos := "law.go:84", after := #[{ on := 15, ground := Ground.data }, { on := 13, ground := Ground.guard }], guard := some (13, true) }
def fiOp17 : Oper := { dst := some 57, op := Op.slice 27 (Operand.tmp 9) none none none, type := 23, pos := "law.go:84", after := #[{ on := 13, ground := Ground.guard }], guard := some (13, true) }
def fiOp18 : Oper := { dst := some 58, op := Op.convert 23 9 (Operand.tmp 57), type := 9, pos := "law.go:84", after := #[{ on := 17, ground := Ground.data }, { on := 13, ground := Ground.guard }], guard := some (13, true) }
def fiOp19 : Oper := { dst := some 59, op := Op.binOp BinOp.eql 9 (Operand.tmp 56) (Operand.tmp 58) 9, type := 4, pos := "law.go:84", after := #[{ on := 16, ground := Ground.data }, { on := 18, ground := Ground.data }, { on := 13, ground := Ground.guard }], guard := some (13, true) }
def fiOp20 : Oper := { dst := some 60, op := Op.pick (Operand.tmp 53) (Operand.tmp 59) (Operand.const (Value.bool false)), type := 4, pos := "law.go:84", after := #[{ on := 13, ground := Ground.data }, { on := 19, ground := Ground.data }], guard := none }
def fiOp21 : Oper := { dst := some 4, op := Op.assign (Operand.tmp 60), type := 4, pos := "law.go:84", after := #[{ on := 20, ground := Ground.data }, { on := 13, ground := Ground.chain }, { on := 0, ground := Ground.phase }, { on := 1, ground := Ground.phase }, { on := 2, ground := Ground.phase }, { on := 3, ground := Ground.phase }, { on := 4, ground := Ground.phase }, { on := 5, ground := Ground.phase }, { on := 6, ground := Ground.phase }, { on := 7, ground := Ground.phase }, { on := 8, ground := Ground.phase }, { on := 9, ground := Ground.phase }, { on := 10, ground := Ground.phase }, { on := 11, ground := Ground.phase }, { on := 12, ground := Ground.phase }, { on := 13, ground := Ground.phase }, { on := 14, ground := Ground.phase }, { on := 15, ground := Ground.phase }, { on := 16, ground := Ground.phase }, { on := 17, ground := Ground.phase }, { on := 18, ground := Ground.phase }, { on := 19, ground := Ground.phase }, { on := 20, ground := Ground.phase }], guard := none }
def fiOps : Array Oper := #[fiOp0, fiOp1, fiOp2, fiOp3, fiOp4, fiOp5, fiOp6, fiOp7, fiOp8, fiOp9, fiOp10, fiOp11, fiOp12, fiOp13, fiOp14, fiOp15, fiOp16, fiOp17, fiOp18, fiOp19, fiOp20, fiOp21]
set_option maxRecDepth 100000 in
set_option maxHeartbeats 1000000 in
theorem fi_0 (Q : Exit → Act → World → Prop) (hQ : ∀ c a w n v, Q (.panic c) (a.put (some n) v) w → Q (.panic c) a w) (u : World) (z0 z1 z2 z3 z4 z10 z11 z12 z13 z14 z15 z16 z17 z18 z19 z20 z21 z22 z23 z24 z25 z26 z27 z28 z29 z30 z31 z32 z33 z34 z35 z36 z37 z38 z39 z40 z41 z42 z43 z44 z45 z46 z47 z48 z49 z50 z51 z52 z53 z54 z55 z56 z57 z58 z59 z60 : Value) (gb p1 p2 : Nat) (l1 l2 : List Nat) (h1 : Hid (l1.length = 64)) (h2 : Hid (l2.length = 64)) (x1 : ∀ x ∈ l1, x < 256) (x2 : ∀ x ∈ l2, x < 256) (R1 : Rds u (some ⟨gb, 0, none⟩) l1) (R2 : Rds u (some ⟨gb, 64, none⟩) l2) (S1 : Rds u (some ⟨p1, 0, none⟩) l1) (S2 : Rds u (some ⟨p2, 0, none⟩) l2) (H : ∀ (w : World), Below u.heap.size u w → Q .normal { tmps := List.toArray (z0 :: z1 :: z2 :: z3 :: (.bool true) :: (.bool true) :: (.slice (some ⟨gb, 0, none⟩) 128 128) :: (.int .i64 0) :: (.pointer (some ⟨p1, 0, none⟩)) :: (.pointer (some ⟨p2, 0, none⟩)) :: z10 :: z11 :: z12 :: z13 :: z14 :: z15 :: z16 :: z17 :: z18 :: z19 :: z20 :: z21 :: z22 :: z23 :: z24 :: z25 :: z26 :: z27 :: z28 :: z29 :: z30 :: z31 :: z32 :: z33 :: z34 :: z35 :: z36 :: z37 :: z38 :: z39 :: (.bool true) :: (.bool true) :: (.int .i64 0) :: (.bool true) :: (.bool true) :: (.bool true) :: (.slice (some ⟨gb, 0, none⟩) 128 128) :: (.slice (some ⟨gb, 0, none⟩) 64 128) :: (.string (sk l1)) :: (.slice (some ⟨p1, 0, none⟩) 64 64) :: (.string (sk l1)) :: (.bool true) :: (.bool true) :: (.bool true) :: (.slice (some ⟨gb, 0, none⟩) 128 128) :: (.slice (some ⟨gb, 64, none⟩) 64 64) :: (.string (sk l2)) :: (.slice (some ⟨p2, 0, none⟩) 64 64) :: (.string (sk l2)) :: (.bool true) :: (.bool true) :: []), defers := [] } w) (w : World) (hS : Below u.heap.size u w) :
    wpAnyH Tryd.prog .any fiOps Q (fun w' => Below u.heap.size u w') 0 (List.toArray (true :: true :: true :: true :: true :: true :: true :: true :: true :: true :: true :: true :: true :: true :: true :: true :: true :: true :: true :: true :: true :: true :: [])) { tmps := List.toArray (z0 :: z1 :: z2 :: z3 :: (.bool true) :: (.bool true) :: (.slice (some ⟨gb, 0, none⟩) 128 128) :: (.int .i64 0) :: (.pointer (some ⟨p1, 0, none⟩)) :: (.pointer (some ⟨p2, 0, none⟩)) :: z10 :: z11 :: z12 :: z13 :: z14 :: z15 :: z16 :: z17 :: z18 :: z19 :: z20 :: z21 :: z22 :: z23 :: z24 :: z25 :: z26 :: z27 :: z28 :: z29 :: z30 :: z31 :: z32 :: z33 :: z34 :: z35 :: z36 :: z37 :: z38 :: z39 :: (.bool true) :: (.bool true) :: (.int .i64 0) :: (.bool true) :: (.bool true) :: (.bool true) :: (.slice (some ⟨gb, 0, none⟩) 128 128) :: (.slice (some ⟨gb, 0, none⟩) 64 128) :: (.string (sk l1)) :: (.slice (some ⟨p1, 0, none⟩) 64 64) :: (.string (sk l1)) :: (.bool true) :: (.bool true) :: (.bool true) :: (.slice (some ⟨gb, 0, none⟩) 128 128) :: (.slice (some ⟨gb, 64, none⟩) 64 64) :: (.string (sk l2)) :: (.slice (some ⟨p2, 0, none⟩) 64 64) :: (.string (sk l2)) :: (.bool true) :: (.bool true) :: []), defers := [] } w := by
  have _ := hQ
  have _ := u
  have _ := z0
  have _ := z1
  have _ := z2
  have _ := z3
  have _ := z4
  have _ := z10
  have _ := z11
  have _ := z12
  have _ := z13
  have _ := z14
  have _ := z15
  have _ := z16
  have _ := z17
  have _ := z18
  have _ := z19
  have _ := z20
  have _ := z21
  have _ := z22
  have _ := z23
  have _ := z24
  have _ := z25
  have _ := z26
  have _ := z27
  have _ := z28
  have _ := z29
  have _ := z30
  have _ := z31
  have _ := z32
  have _ := z33
  have _ := z34
  have _ := z35
  have _ := z36
  have _ := z37
  have _ := z38
  have _ := z39
  have _ := z40
  have _ := z41
  have _ := z42
  have _ := z43
  have _ := z44
  have _ := z45
  have _ := z46
  have _ := z47
  have _ := z48
  have _ := z49
  have _ := z50
  have _ := z51
  have _ := z52
  have _ := z53
  have _ := z54
  have _ := z55
  have _ := z56
  have _ := z57
  have _ := z58
  have _ := z59
  have _ := z60
  have _ := gb
  have _ := p1
  have _ := p2
  have _ := l1
  have _ := l2
  have _ := h1
  have _ := h2
  have _ := x1
  have _ := x2
  have _ := R1
  have _ := R2
  have _ := S1
  have _ := S2
  exact wpAnyH_done (by kernel_rfl) (H  w hS ) _
set_option maxRecDepth 100000 in
set_option maxHeartbeats 1000000 in
theorem fi_region (Q : Exit → Act → World → Prop) (hQ : ∀ c a w n v, Q (.panic c) (a.put (some n) v) w → Q (.panic c) a w) (u : World) (z0 z1 z2 z3 z4 z10 z11 z12 z13 z14 z15 z16 z17 z18 z19 z20 z21 z22 z23 z24 z25 z26 z27 z28 z29 z30 z31 z32 z33 z34 z35 z36 z37 z38 z39 z40 z41 z42 z43 z44 z45 z46 z47 z48 z49 z50 z51 z52 z53 z54 z55 z56 z57 z58 z59 z60 : Value) (gb p1 p2 : Nat) (l1 l2 : List Nat) (h1 : Hid (l1.length = 64)) (h2 : Hid (l2.length = 64)) (x1 : ∀ x ∈ l1, x < 256) (x2 : ∀ x ∈ l2, x < 256) (R1 : Rds u (some ⟨gb, 0, none⟩) l1) (R2 : Rds u (some ⟨gb, 64, none⟩) l2) (S1 : Rds u (some ⟨p1, 0, none⟩) l1) (S2 : Rds u (some ⟨p2, 0, none⟩) l2) (H : ∀ (w : World), Below u.heap.size u w → Q .normal { tmps := List.toArray (z0 :: z1 :: z2 :: z3 :: (.bool true) :: (.bool true) :: (.slice (some ⟨gb, 0, none⟩) 128 128) :: (.int .i64 0) :: (.pointer (some ⟨p1, 0, none⟩)) :: (.pointer (some ⟨p2, 0, none⟩)) :: z10 :: z11 :: z12 :: z13 :: z14 :: z15 :: z16 :: z17 :: z18 :: z19 :: z20 :: z21 :: z22 :: z23 :: z24 :: z25 :: z26 :: z27 :: z28 :: z29 :: z30 :: z31 :: z32 :: z33 :: z34 :: z35 :: z36 :: z37 :: z38 :: z39 :: (.bool true) :: (.bool true) :: (.int .i64 0) :: (.bool true) :: (.bool true) :: (.bool true) :: (.slice (some ⟨gb, 0, none⟩) 128 128) :: (.slice (some ⟨gb, 0, none⟩) 64 128) :: (.string (sk l1)) :: (.slice (some ⟨p1, 0, none⟩) 64 64) :: (.string (sk l1)) :: (.bool true) :: (.bool true) :: (.bool true) :: (.slice (some ⟨gb, 0, none⟩) 128 128) :: (.slice (some ⟨gb, 64, none⟩) 64 64) :: (.string (sk l2)) :: (.slice (some ⟨p2, 0, none⟩) 64 64) :: (.string (sk l2)) :: (.bool true) :: (.bool true) :: []), defers := [] } w) :
    (Code.region 9 fiOps true).wp Tryd.prog Q { tmps := List.toArray (z0 :: z1 :: z2 :: z3 :: z4 :: (.bool true) :: (.slice (some ⟨gb, 0, none⟩) 128 128) :: (.int .i64 0) :: (.pointer (some ⟨p1, 0, none⟩)) :: (.pointer (some ⟨p2, 0, none⟩)) :: z10 :: z11 :: z12 :: z13 :: z14 :: z15 :: z16 :: z17 :: z18 :: z19 :: z20 :: z21 :: z22 :: z23 :: z24 :: z25 :: z26 :: z27 :: z28 :: z29 :: z30 :: z31 :: z32 :: z33 :: z34 :: z35 :: z36 :: z37 :: z38 :: z39 :: z40 :: z41 :: z42 :: z43 :: z44 :: z45 :: z46 :: z47 :: z48 :: z49 :: z50 :: z51 :: z52 :: z53 :: z54 :: z55 :: z56 :: z57 :: z58 :: z59 :: z60 :: []), defers := [] } u := by
  refine wp_region_held_drew (S := (fun w' => Below u.heap.size u w')) (by kernel_rfl) (Below.refl _ _).drew (fun hS => ?_)
  refine wpAnyH_take (i := 0) (oi := fiOp0) (v := .bool true) rfl (by kernel_rfl) (by kernel_rfl) (by kernel_rfl) (fun _ _ _ => hQ _ _ _ _ _) (Or.inl ⟨by rfl, fun w hSw => by unfold fiOp0; go_simp⟩) hS ?_
  try simp only [fiOp0, Act.put, List.setIfInBounds_toArray, List.set_cons_zero, List.set_cons_succ]
  refine wpAnyH_take (i := 1) (oi := fiOp1) (v := .bool true) rfl (by kernel_rfl) (by kernel_rfl) (by kernel_rfl) (fun _ _ _ => hQ _ _ _ _ _) (Or.inl ⟨by rfl, fun w hSw => by unfold fiOp1; go_simp⟩) hS ?_
  try simp only [fiOp1, Act.put, List.setIfInBounds_toArray, List.set_cons_zero, List.set_cons_succ]
  refine wpAnyH_take (i := 2) (oi := fiOp2) (v := .int .i64 0) rfl (by kernel_rfl) (by kernel_rfl) (by kernel_rfl) (fun _ _ _ => hQ _ _ _ _ _) (Or.inl ⟨by rfl, fun w hSw => by unfold fiOp2; go_simp⟩) hS ?_
  try simp only [fiOp2, Act.put, List.setIfInBounds_toArray, List.set_cons_zero, List.set_cons_succ]
  refine wpAnyH_take (i := 3) (oi := fiOp3) (v := .bool true) rfl (by kernel_rfl) (by kernel_rfl) (by kernel_rfl) (fun _ _ _ => hQ _ _ _ _ _) (Or.inl ⟨by rfl, fun w hSw => by unfold fiOp3; go_simp⟩) hS ?_
  try simp only [fiOp3, Act.put, List.setIfInBounds_toArray, List.set_cons_zero, List.set_cons_succ]
  refine wpAnyH_take (i := 4) (oi := fiOp4) (v := .bool true) rfl (by kernel_rfl) (by kernel_rfl) (by kernel_rfl) (fun _ _ _ => hQ _ _ _ _ _) (Or.inl ⟨by rfl, fun w hSw => by unfold fiOp4; go_simp⟩) hS ?_
  try simp only [fiOp4, Act.put, List.setIfInBounds_toArray, List.set_cons_zero, List.set_cons_succ]
  refine wpAnyH_take (i := 5) (oi := fiOp5) (v := .bool true) rfl (by kernel_rfl) (by kernel_rfl) (by kernel_rfl) (fun _ _ _ => hQ _ _ _ _ _) (Or.inl ⟨by rfl, fun w hSw => by unfold fiOp5; go_simp⟩) hS ?_
  try simp only [fiOp5, Act.put, List.setIfInBounds_toArray, List.set_cons_zero, List.set_cons_succ]
  refine wpAnyH_take (i := 6) (oi := fiOp6) (v := .slice (some ⟨gb, 0, none⟩) 128 128) rfl (by kernel_rfl) (by kernel_rfl) (by kernel_rfl) (fun _ _ _ => hQ _ _ _ _ _) (Or.inl ⟨by rfl, fun w hSw => by unfold fiOp6; go_simp⟩) hS ?_
  try simp only [fiOp6, Act.put, List.setIfInBounds_toArray, List.set_cons_zero, List.set_cons_succ]
  refine wpAnyH_take (i := 7) (oi := fiOp7) (v := .slice (some ⟨gb, 0, none⟩) 64 128) rfl (by kernel_rfl) (by kernel_rfl) (by kernel_rfl) (fun _ _ _ => hQ _ _ _ _ _) (Or.inl ⟨by rfl, fun w hSw => by unfold fiOp7; go_simp⟩) hS ?_
  try simp only [fiOp7, Act.put, List.setIfInBounds_toArray, List.set_cons_zero, List.set_cons_succ]
  refine wpAnyH_take (i := 8) (oi := fiOp8) (v := .string (sk l1)) rfl (by kernel_rfl) (by kernel_rfl) (by kernel_rfl) (fun _ _ _ => hQ _ _ _ _ _) (Or.inl ⟨by rfl, fun w hSw => by have hc := conv_n w (some ⟨gb, 0, none⟩) l1 64 128 h1.out (R1.low hSw) x1; unfold fiOp8; go_simp⟩) hS ?_
  try simp only [fiOp8, Act.put, List.setIfInBounds_toArray, List.set_cons_zero, List.set_cons_succ]
  refine wpAnyH_take (i := 9) (oi := fiOp9) (v := .slice (some ⟨p1, 0, none⟩) 64 64) rfl (by kernel_rfl) (by kernel_rfl) (by kernel_rfl) (fun _ _ _ => hQ _ _ _ _ _) (Or.inl ⟨by rfl, fun w hSw => by unfold fiOp9; go_simp⟩) hS ?_
  try simp only [fiOp9, Act.put, List.setIfInBounds_toArray, List.set_cons_zero, List.set_cons_succ]
  refine wpAnyH_take (i := 10) (oi := fiOp10) (v := .string (sk l1)) rfl (by kernel_rfl) (by kernel_rfl) (by kernel_rfl) (fun _ _ _ => hQ _ _ _ _ _) (Or.inl ⟨by rfl, fun w hSw => by have hc := conv_n w (some ⟨p1, 0, none⟩) l1 64 64 h1.out (S1.low hSw) x1; unfold fiOp10; go_simp⟩) hS ?_
  try simp only [fiOp10, Act.put, List.setIfInBounds_toArray, List.set_cons_zero, List.set_cons_succ]
  refine wpAnyH_take (i := 11) (oi := fiOp11) (v := .bool true) rfl (by kernel_rfl) (by kernel_rfl) (by kernel_rfl) (fun _ _ _ => hQ _ _ _ _ _) (Or.inl ⟨by rfl, fun w hSw => by unfold fiOp11; go_simp⟩) hS ?_
  try simp only [fiOp11, Act.put, List.setIfInBounds_toArray, List.set_cons_zero, List.set_cons_succ]
  refine wpAnyH_take (i := 12) (oi := fiOp12) (v := .bool true) rfl (by kernel_rfl) (by kernel_rfl) (by kernel_rfl) (fun _ _ _ => hQ _ _ _ _ _) (Or.inl ⟨by rfl, fun w hSw => by unfold fiOp12; go_simp⟩) hS ?_
  try simp only [fiOp12, Act.put, List.setIfInBounds_toArray, List.set_cons_zero, List.set_cons_succ]
  refine wpAnyH_take (i := 13) (oi := fiOp13) (v := .bool true) rfl (by kernel_rfl) (by kernel_rfl) (by kernel_rfl) (fun _ _ _ => hQ _ _ _ _ _) (Or.inl ⟨by rfl, fun w hSw => by unfold fiOp13; go_simp⟩) hS ?_
  try simp only [fiOp13, Act.put, List.setIfInBounds_toArray, List.set_cons_zero, List.set_cons_succ]
  refine wpAnyH_take (i := 14) (oi := fiOp14) (v := .slice (some ⟨gb, 0, none⟩) 128 128) rfl (by kernel_rfl) (by kernel_rfl) (by kernel_rfl) (fun _ _ _ => hQ _ _ _ _ _) (Or.inl ⟨by rfl, fun w hSw => by unfold fiOp14; go_simp⟩) hS ?_
  try simp only [fiOp14, Act.put, List.setIfInBounds_toArray, List.set_cons_zero, List.set_cons_succ]
  refine wpAnyH_take (i := 15) (oi := fiOp15) (v := .slice (some ⟨gb, 64, none⟩) 64 64) rfl (by kernel_rfl) (by kernel_rfl) (by kernel_rfl) (fun _ _ _ => hQ _ _ _ _ _) (Or.inl ⟨by rfl, fun w hSw => by have hc := cut64 gb w; unfold fiOp15; go_simp⟩) hS ?_
  try simp only [fiOp15, Act.put, List.setIfInBounds_toArray, List.set_cons_zero, List.set_cons_succ]
  refine wpAnyH_take (i := 16) (oi := fiOp16) (v := .string (sk l2)) rfl (by kernel_rfl) (by kernel_rfl) (by kernel_rfl) (fun _ _ _ => hQ _ _ _ _ _) (Or.inl ⟨by rfl, fun w hSw => by have hc := conv_n w (some ⟨gb, 64, none⟩) l2 64 64 h2.out (R2.low hSw) x2; unfold fiOp16; go_simp⟩) hS ?_
  try simp only [fiOp16, Act.put, List.setIfInBounds_toArray, List.set_cons_zero, List.set_cons_succ]
  refine wpAnyH_take (i := 17) (oi := fiOp17) (v := .slice (some ⟨p2, 0, none⟩) 64 64) rfl (by kernel_rfl) (by kernel_rfl) (by kernel_rfl) (fun _ _ _ => hQ _ _ _ _ _) (Or.inl ⟨by rfl, fun w hSw => by unfold fiOp17; go_simp⟩) hS ?_
  try simp only [fiOp17, Act.put, List.setIfInBounds_toArray, List.set_cons_zero, List.set_cons_succ]
  refine wpAnyH_take (i := 18) (oi := fiOp18) (v := .string (sk l2)) rfl (by kernel_rfl) (by kernel_rfl) (by kernel_rfl) (fun _ _ _ => hQ _ _ _ _ _) (Or.inl ⟨by rfl, fun w hSw => by have hc := conv_n w (some ⟨p2, 0, none⟩) l2 64 64 h2.out (S2.low hSw) x2; unfold fiOp18; go_simp⟩) hS ?_
  try simp only [fiOp18, Act.put, List.setIfInBounds_toArray, List.set_cons_zero, List.set_cons_succ]
  refine wpAnyH_take (i := 19) (oi := fiOp19) (v := .bool true) rfl (by kernel_rfl) (by kernel_rfl) (by kernel_rfl) (fun _ _ _ => hQ _ _ _ _ _) (Or.inl ⟨by rfl, fun w hSw => by unfold fiOp19; go_simp⟩) hS ?_
  try simp only [fiOp19, Act.put, List.setIfInBounds_toArray, List.set_cons_zero, List.set_cons_succ]
  refine wpAnyH_take (i := 20) (oi := fiOp20) (v := .bool true) rfl (by kernel_rfl) (by kernel_rfl) (by kernel_rfl) (fun _ _ _ => hQ _ _ _ _ _) (Or.inl ⟨by rfl, fun w hSw => by unfold fiOp20; go_simp⟩) hS ?_
  try simp only [fiOp20, Act.put, List.setIfInBounds_toArray, List.set_cons_zero, List.set_cons_succ]
  refine wpAnyH_take (i := 21) (oi := fiOp21) (v := .bool true) rfl (by kernel_rfl) (by kernel_rfl) (by kernel_rfl) (fun _ _ _ => hQ _ _ _ _ _) (Or.inl ⟨by rfl, fun w hSw => by unfold fiOp21; go_simp⟩) hS ?_
  try simp only [fiOp21, Act.put, List.setIfInBounds_toArray, List.set_cons_zero, List.set_cons_succ]
  exact fi_0 Q hQ u z0 z1 z2 z3 z4 z10 z11 z12 z13 z14 z15 z16 z17 z18 z19 z20 z21 z22 z23 z24 z25 z26 z27 z28 z29 z30 z31 z32 z33 z34 z35 z36 z37 z38 z39 z40 z41 z42 z43 z44 z45 z46 z47 z48 z49 z50 z51 z52 z53 z54 z55 z56 z57 z58 z59 z60 gb p1 p2 l1 l2 h1 h2 x1 x2 R1 R2 S1 S2 H u.drew hS
set_option maxRecDepth 100000 in
set_option maxHeartbeats 4000000 in
theorem first_walk (h0 : SumOk) (A C : Option Addr) (k u : List Nat) (ca cc : Nat) (w : World) (hG : Glob w) (hA : Rds w A k) (hca : k.length ≤ ca) (hk : ∀ x ∈ k, x < 256) (hC : Rds w C u) (hcc : u.length ≤ cc) (hu : ∀ x ∈ u, x < 256) :
    Calls Tryd.prog 7 #[.slice A k.length ca, .slice C u.length cc] w fun e w' => e = .returned (.bool true) ∧ Below w.heap.size w w' := by
  have H0 := hide h0
  have HG := hide hG
  have HA := hide hA
  have Hca := hide hca
  have Hk := hide hk
  have HC := hide hC
  have Hcc := hide hcc
  have Hu := hide hu
  clear h0 hG hA hca hk hC hcc hu
  go_enter Tryd.func7, Tryd.ntmps7
  go_upto_region 2 with (go_at_call 9; refine (awake_at H0.out _ _ rfl HG.out).mono ?_; rintro e w1 ⟨rfl, hb⟩; have L1 := hide hb; clear hb; dsimp only)
  by_cases hlk : 500 < k.length
  · have hi : (500 : Int) < (k.length : Int) := by omega
    go_wp2
    go_ret
    exact ⟨rfl, L1.out⟩
  have hi : ¬ (500 : Int) < (k.length : Int) := by omega
  have Hlk := hide hlk
  clear hlk
  by_cases hll : 500 < u.length
  · have hj : (500 : Int) < (u.length : Int) := by omega
    go_wp2
    go_ret
    exact ⟨rfl, L1.out⟩
  have hj : ¬ (500 : Int) < (u.length : Int) := by omega
  have Hll := hide hll
  clear hll
  obtain ⟨la, hla⟩ : ∃ la, la = xp k u 128 := ⟨_, rfl⟩
  obtain ⟨f1, hf1⟩ : ∃ f, f = mc k (u ++ [1]) := ⟨_, rfl⟩
  obtain ⟨l1, hl1⟩ : ∃ l, l = (List.range 64).map f1 := ⟨_, rfl⟩
  obtain ⟨f2, hf2⟩ : ∃ f, f = mc k (l1 ++ (u ++ [2])) := ⟨_, rfl⟩
  obtain ⟨l2, hl2⟩ : ∃ l, l = (List.range 64).map f2 := ⟨_, rfl⟩
  have e1 : la.take 64 = l1 := by rw [hla, (xp_first k u).1, hl1, hf1]; rfl
  have e2 : la.drop 64 = l2 := by rw [hla, (xp_first k u).2, hl2, hf2, hl1, hf1, List.append_assoc]; rfl
  have E1 := hide e1
  have E2 := hide e2
  have N1 : Hid (l1.length = 64) := hide (by rw [hl1]; simp)
  have N2 : Hid (l2.length = 64) := hide (by rw [hl2]; simp)
  have X1 : Hid (∀ x ∈ l1, x < 256) := hide (fun x hx => by rw [hl1] at hx; obtain ⟨i, _, rfl⟩ := List.mem_map.1 hx; rw [hf1]; exact mc_lt _ _ i)
  have X2 : Hid (∀ x ∈ l2, x < 256) := hide (fun x hx => by rw [hl2] at hx; obtain ⟨i, _, rfl⟩ := List.mem_map.1 hx; rw [hf2]; exact mc_lt _ _ i)
  have Hla := hide hla
  have F1 := hide hf1
  have F2 := hide hf2
  have G1 := hide hl1
  have G2 := hide hl2
  clear e1 e2 hla hf1 hf2 hl1 hl2
  go_upto_region 7 with (go_at_call 10; refine (expand_rds H0.out A C k u la ca cc 128 _ _ rfl Hla.out (by decide) (HG.out.low L1.out) (HA.out.low L1.out) Hca.out Hk.out (HC.out.low L1.out) Hcc.out Hu.out (by have := Hlk.out; omega) (by have := Hll.out; omega)).mono ?_; rintro e k2 ⟨gb, rfl, hR, hb⟩; have R2 := hide hR; have L2 := hide (keepLow2 L1.out hb); clear hb hR L1; dsimp only)
  have hz := zero24
  have Bc := hide ((Blk.new k2 #[.int .u8 1] 5).alloc (.cells #[.slice C u.length cc, .slice (some ⟨k2.heap.size, 0, none⟩) 1 1] 23))
  have Lc := hide (((Below.refl k2.heap.size k2).alloc (Nat.le_refl _) (.cells #[.int .u8 1] 5)).alloc (by simp) (.cells #[.slice C u.length cc, .slice (some ⟨k2.heap.size, 0, none⟩) 1 1] 23))
  go_upto_region 8 with (first
    | (go_at_call 14; refine (mac_two f1 H0.out A C k u 1 F1.out ca cc k2.heap.size (k2.heap.size + 1) 23 5 _ _ rfl (Blk.new' _ (k2.heap.size + 1) (by simp) _ _) Bc.out (HG.out.low (keepLow2 L2.out Lc.out)) (HA.out.low (keepLow2 L2.out Lc.out)) Hca.out Hk.out (HC.out.low (keepLow2 L2.out Lc.out)) Hcc.out Hu.out (by decide) (by have := Hlk.out; omega) (by have := Hll.out; omega)).mono ?_; rintro e k3 ⟨rfl, hb⟩; have R3 := hide ((R2.out.low Lc.out).low hb); have L3 := hide (keepLow2 (keepLow2 L2.out Lc.out) hb); clear hb R2 L2 Lc Bc; dsimp only)
    | (refine wpList_store_abs rfl 27 _ _ rfl k3.heap.size (vals .u8 64 f1) rfl rfl 27 _ (Blk.new k3 _ _) (by rw [vals_size]; exact cells24) (by simp only [vals_size]) (vals_one _ _ _) ?_; intro k4 Bn Sn; have D4 := hide Bn; have B4 := hide (Sn.low _ _ ((Below.refl _ k3).alloc (Nat.le_refl _) _) (Nat.le_refl _)); have R4 := hide (R3.out.low B4.out); have L4 := hide (keepLow2 L3.out B4.out); clear Bn Sn R3 L3 B4))
  generalize k3.heap.size = p1 at *
  have S4 := hide (rds_vals D4.out)
  rw [← G1.out] at S4
  have Bc := hide ((Blk.new k4 #[.int .u8 2] 5).alloc (.cells #[.slice (some ⟨p1, 0, none⟩) 64 64, .slice C u.length cc, .slice (some ⟨k4.heap.size, 0, none⟩) 1 1] 23))
  have Lc := hide (((Below.refl k4.heap.size k4).alloc (Nat.le_refl _) (.cells #[.int .u8 2] 5)).alloc (by simp) (.cells #[.slice (some ⟨p1, 0, none⟩) 64 64, .slice C u.length cc, .slice (some ⟨k4.heap.size, 0, none⟩) 1 1] 23))
  go_upto_region 9 with (first
    | (go_at_call 14; refine (mac_three f2 H0.out A (some ⟨p1, 0, none⟩) C k l1 u 2 F2.out ca 64 cc k4.heap.size (k4.heap.size + 1) 23 5 _ _ rfl ((Blk.new' _ (k4.heap.size + 1) (by simp) _ _).cast (by rw [N1.out])) Bc.out (HG.out.low (keepLow2 L4.out Lc.out)) (HA.out.low (keepLow2 L4.out Lc.out)) Hca.out Hk.out (S4.out.low Lc.out) (by rw [N1.out]; exact Nat.le_refl _) X1.out (HC.out.low (keepLow2 L4.out Lc.out)) Hcc.out Hu.out (by decide) (by have := Hlk.out; omega) (by have := Hll.out; rw [N1.out]; omega)).mono ?_; rintro e k5 ⟨rfl, hb⟩; have R5 := hide ((R4.out.low Lc.out).low hb); have S5 := hide ((S4.out.low Lc.out).low hb); have L5 := hide (keepLow2 (keepLow2 L4.out Lc.out) hb); clear hb R4 L4 Lc Bc S4; dsimp only)
    | (refine wpList_store_abs rfl 27 _ _ rfl k5.heap.size (vals .u8 64 f2) rfl rfl 27 _ (Blk.new k5 _ _) (by rw [vals_size]; exact cells24) (by simp only [vals_size]) (vals_one _ _ _) ?_; intro k6 Bn Sn; have D6 := hide Bn; have B6 := hide (Sn.low _ _ ((Below.refl _ k5).alloc (Nat.le_refl _) _) (Nat.le_refl _)); have R6 := hide (R5.out.low B6.out); have S6 := hide (S5.out.low B6.out); have L6 := hide (keepLow2 L5.out B6.out); clear Bn Sn R5 S5 L5 B6))
  clear hz
  generalize k5.heap.size = p2 at *
  have T6 := hide (rds_vals D6.out)
  rw [← G2.out] at T6
  have RA := hide (R6.out.take 64)
  rw [E1.out] at RA
  have RB := hide (R6.out.cut 64 128 (by rw [Hla.out, xp_len]; omega))
  rw [E2.out] at RB
  refine fi_region _ (fun _ _ _ _ _ h => h) k6 _ _ _ _ _ _ _ _ _ _ _ _ _ _ _ _ _ _ _ _ _ _ _ _ _ _ _ _ _ _ _ _ _ _ _ _ _ _ _ _ _ _ _ _ _ _ _ _ _ _ _ _ _ _ _ _ gb p1 p2 l1 l2 N1 N2 X1.out X2.out RA.out RB.out S6.out T6.out ?_
  intro w9 hS9
  have L9 := hide (keepLow2 L6.out hS9)
  clear hS9
  go_wp2
  go_ret
  exact ⟨rfl, L9.out⟩
end Go.Proofs.YtjnjedannpnjiaaDoor

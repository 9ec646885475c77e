/- The great region of awake: state by state. -/
import Derived.Test.YtplckpmicoohnaaDoorCj
namespace Go.Proofs.YtplckpmicoohnaaDoor
open Go.RowKit

def awOp0 : Oper := { dst := some 6, op := Op.indexAddr 24 (Operand.tmp 1) (Operand.const (Value.int IntKind.i64 0)), type := 0, pos := "law.go:12", after := #[], guard := none }
def awOp1 : Oper := { dst := some 7, op := Op.load 5 (Operand.tmp 6), type := 5, pos := "law.go:12", after := #[{ on := 0, ground := Ground.data }], guard := none }
def awOp2 : Oper := { dst := some 8, op := Op.binOp BinOp.eql 5 (Operand.tmp 7) (Operand.const (Value.int IntKind.u8 221)) 5, type := 4, pos := "law.go:12", after := #[{ on := 1, ground := Ground.data }], guard := none }
def awOp3 : Oper := { dst := some 9, op := Op.move (Operand.tmp 8), type := 4, pos := "law.go:12", after := #[{ on := 2, ground := Ground.data }], guard := none }
def awOp4 : Oper := { dst := some 10, op := Op.indexAddr 24 (Operand.tmp 1) (Operand.const (Value.int IntKind.i64 1)), type := 0, pos := "law.go:12", after := #[{ on := 3, ground := Ground.guard }], guard := some (3, true) }
def awOp5 : Oper := { dst := some 11, op := Op.load 5 (Operand.tmp 10), type := 5, pos := "law.go:12", after := #[{ on := 4, ground := Ground.data }, { on := 3, ground := Ground.guard }], guard := some (3, true) }
def awOp6 : Oper := { dst := some 12, op := Op.binOp BinOp.eql 5 (Operand.tmp 11) (Operand.const (Value.int IntKind.u8 175)) 5, type := 4, pos := "law.go:12", after := #[{ on := 5, ground := Ground.data }, { on := 3, ground := Ground.guard }], guard := some (3, true) }
def awOp7 : Oper := { dst := some 13, op := Op.pick (Operand.tmp 9) (Operand.tmp 12) (Operand.const (Value.bool false)), type := 4, pos := "law.go:12", after := #[{ on := 3, ground := Ground.data }, { on := 6, ground := Ground.data }], guard := none }
def awOp8 : Oper := { dst := some 14, op := Op.move (Operand.tmp 13), type := 4, pos := "law.go:12", after := #[{ on := 7, ground := Ground.data }, { on := 3, ground := Ground.chain }], guard := none }
def awOp9 : Oper := { dst := some 15, op := Op.indexAddr 24 (Operand.tmp 1) (Operand.const (Value.int IntKind.i64 2)), type := 0, pos := "law.go:12", after := #[{ on := 8, ground := Ground.guard }], guard := some (8, true) }
def awOp10 : Oper := { dst := some 16, op := Op.load 5 (Operand.tmp 15), type := 5, pos := "law.go:12", after := #[{ on := 9, ground := Ground.data }, { on := 8, ground := Ground.guard }], guard := some (8, true) }
def awOp11 : Oper := { dst := some 17, op := Op.binOp BinOp.eql 5 (Operand.tmp 16) (Operand.const (Value.int IntKind.u8 53)) 5, type := 4, pos := "law.go:12", after := #[{ on := 10, ground := Ground.data }, { on := 8, ground := Ground.guard }], guard := some (8, true) }
def awOp12 : Oper := { dst := some 18, op := Op.pick (Operand.tmp 14) (Operand.tmp 17) (Operand.const (Value.bool false)), type := 4, pos := "law.go:12", after := #[{ on := 8, ground := Ground.data }, { on := 11, ground := Ground.data }], guard := none }
def awOp13 : Oper := { dst := some 19, op := Op.move (Operand.tmp 18), type := 4, pos := "law.go:12", after := #[{ on := 12, ground := Ground.data }, { on := 8, ground := Ground.chain }], guard := none }
def awOp14 : Oper := { dst := some 20, op := Op.indexAddr 24 (Operand.tmp 1) (Operand.const (Value.int IntKind.i64 3)), type := 0, pos := "law.go:12", after := #[{ on := 13, ground := Ground.guard }], guard := some (13, true) }
def awOp15 : Oper := { dst := some 21, op := Op.load 5 (Operand.tmp 20), type := 5, pos := "law.go:12", after := #[{ on := 14, ground := Ground.data }, { on := 13, ground := Ground.guard }], guard := some (13, true) }
def awOp16 : Oper := { dst := some 22, op := Op.binOp BinOp.eql 5 (Operand.tmp 21) (Operand.const (Value.int IntKind.u8 161)) 5, type := 4, pos := "law.go:12", after := #[{ on := 15, ground := Ground.data }, { on := 13, ground := Ground.guard }], guard := some (13, true) }
def awOp17 : Oper := { dst := some 23, op := Op.pick (Operand.tmp 19) (Operand.tmp 22) (Operand.const (Value.bool false)), type := 4, pos := "law.go:12", after := #[{ on := 13, ground := Ground.data }, { on := 16, ground := Ground.data }], guard := none }
def awOp18 : Oper := { dst := some 24, op := Op.move (Operand.tmp 23), type := 4, pos := "law.go:12", after := #[{ on := 17, ground := Ground.data }, { on := 13, ground := Ground.chain }], guard := none }
def awOp19 : Oper := { dst := some 25, op := Op.indexAddr 24 (Operand.tmp 1) (Operand.const (Value.int IntKind.i64 63)), type := 0, pos := "law.go:12", after := #[{ on := 18, ground := Ground.guard }], guard := some (18, true) }
def awOp20 : Oper := { dst := some 26, op := Op.load 5 (Operand.tmp 25), type := 5, pos := "law.go:12", after := #[{ on := 19, ground := Ground.data }, { on := 18, ground := Ground.guard }], guard := some (18, true) }
def awOp21 : Oper := { dst := some 27, op := Op.binOp BinOp.eql 5 (Operand.tmp 26) (Operand.const (Value.int IntKind.u8 159)) 5, type := 4, pos := "law.go:12", after := #[{ on := 20, ground := Ground.data }, { on := 18, ground := Ground.guard }], guard := some (18, true) }
def awOp22 : Oper := { dst := some 28, op := Op.pick (Operand.tmp 24) (Operand.tmp 27) (Operand.const (Value.bool false)), type := 4, pos := "law.go:12", after := #[{ on := 18, ground := Ground.data }, { on := 21, ground := Ground.data }], guard := none }
def awOp23 : Oper := { dst := some 29, op := Op.move (Operand.tmp 28), type := 4, pos := "law.go:12", after := #[{ on := 22, ground := Ground.data }, { on := 18, ground := Ground.chain }], guard := none }
def awOp24 : Oper := { dst := some 30, op := Op.call { callee := Callee.value (Operand.func 11), args := #[], argTypes := #[] }, type := 31, pos := "law.go:12", after := #[{ on := 23, ground := Ground.chain }, { on := 23, ground := Ground.guard }], guard := some (23, true) }
def awOp25 : Oper := { dst := some 31, op := Op.buildSlice 22 1 #[(0, Operand.const (Value.int IntKind.u8 97))], type := 22, pos := "law.go:12", after := #[{ on := 23, ground := Ground.guard }], guard := some (23, true) }
def awOp26 : Oper := { dst := some 32, op := Op.convert 22 22 (Operand.tmp 31), type := 22, pos := "law.go:12", after := #[{ on := 25, ground := Ground.data }, { on := 23, ground := Ground.guard }], guard := some (23, true) }
def awOp27 : Oper := { dst := some 33, op := Op.call { callee := Callee.value (Operand.func 12), args := #[Operand.tmp 30, Operand.tmp 32], argTypes := #[31, 22] }, type := 31, pos := "law.go:12", after := #[{ on := 24, ground := Ground.data }, { on := 26, ground := Ground.data }, { on := 24, ground := Ground.chain }, { on := 23, ground := Ground.guard }], guard := some (23, true) }
def awOp28 : Oper := { dst := some 34, op := Op.buildSlice 22 2 #[(0, Operand.const (Value.int IntKind.u8 98)), (1, Operand.const (Value.int IntKind.u8 99))], type := 22, pos := "law.go:12", after := #[{ on := 23, ground := Ground.guard }], guard := some (23, true) }
def awOp29 : Oper := { dst := some 35, op := Op.convert 22 22 (Operand.tmp 34), type := 22, pos := "law.go:12", after := #[{ on := 28, ground := Ground.data }, { on := 23, ground := Ground.guard }], guard := some (23, true) }
def awOp30 : Oper := { dst := some 36, op := Op.call { callee := Callee.value (Operand.func 12), args := #[Operand.tmp 33, Operand.tmp 35], argTypes := #[31, 22] }, type := 31, pos := "law.go:12", after := #[{ on := 27, ground := Ground.data }, { on := 29, ground := Ground.data }, { on := 27, ground := Ground.chain }, { on := 23, ground := Ground.guard }], guard := some (23, true) }
def awOp31 : Oper := { dst := some 37, op := Op.call { callee := Callee.value (Operand.func 13), args := #[Operand.tmp 36], argTypes := #[31] }, type := 24, pos := "law.go:12", after := #[{ on := 30, ground := Ground.data }, { on := 30, ground := Ground.chain }, { on := 23, ground := Ground.guard }], guard := some (23, true) }
def awOp32 : Oper := { dst := some 38, op := Op.load 24 (Operand.tmp 1), type := 24, pos := "law.go:12", after := #[{ on := 23, ground := Ground.guard }], guard := some (23, true) }
def awOp33 : Oper := { dst := some 39, op := Op.binOp BinOp.eql 24 (Operand.tmp 37) (Operand.tmp 38) 24, type := 4, pos := "law.go:12", after := #[{ on := 31, ground := Ground.data }, { on := 32, ground := Ground.data }, { on := 23, ground := Ground.guard }], guard := some (23, true) }
def awOp34 : Oper := { dst := some 40, op := Op.pick (Operand.tmp 29) (Operand.tmp 39) (Operand.const (Value.bool false)), type := 4, pos := "law.go:12", after := #[{ on := 23, ground := Ground.data }, { on := 33, ground := Ground.data }], guard := none }
def awOp35 : Oper := { dst := some 0, op := Op.assign (Operand.tmp 40), type := 4, pos := "law.go:12", after := #[{ on := 34, ground := Ground.data }, { on := 31, ground := Ground.chain }, { on := 0, ground := Ground.phase }, { on := 1, ground := Ground.phase }, { on := 2, ground := Ground.phase }, { on := 3, ground := Ground.phase }, { on := 4, ground := Ground.phase }, { on := 5, ground := Ground.phase }, { on := 6, ground := Ground.phase }, { on := 7, ground := Ground.phase }, { on := 8, ground := Ground.phase }, { on := 9, ground := Ground.phase }, { on := 10, ground := Ground.phase }, { on := 11, ground := Ground.phase }, { on := 12, ground := Ground.phase }, { on := 13, ground := Ground.phase }, { on := 14, ground := Ground.phase }, { on := 15, ground := Ground.phase }, { on := 16, ground := Ground.phase }, { on := 17, ground := Ground.phase }, { on := 18, ground := Ground.phase }, { on := 19, ground := Ground.phase }, { on := 20, ground := Ground.phase }, { on := 21, ground := Ground.phase }, { on := 22, ground := Ground.phase }, { on := 23, ground := Ground.phase }, { on := 24, ground := Ground.phase }, { on := 25, ground := Ground.phase }, { on := 26, ground := Ground.phase }, { on := 27, ground := Ground.phase }, { on := 28, ground := Ground.phase }, { on := 29, ground := Ground.phase }, { on := 30, ground := Ground.phase }, { on := 31, ground := Ground.phase }, { on := 32, ground := Ground.phase }, { on := 33, ground := Ground.phase }, { on := 34, ground := Ground.phase }], guard := none }
def awOps : Array Oper := #[awOp0, awOp1, awOp2, awOp3, awOp4, awOp5, awOp6, awOp7, awOp8, awOp9, awOp10, awOp11, awOp12, awOp13, awOp14, awOp15, awOp16, awOp17, awOp18, awOp19, awOp20, awOp21, awOp22, awOp23, awOp24, awOp25, awOp26, awOp27, awOp28, awOp29, awOp30, awOp31, awOp32, awOp33, awOp34, awOp35]
set_option maxRecDepth 100000 in
set_option maxHeartbeats 1000000 in
theorem aw_0 (Q : Exit → Act → World → Prop) (hQ : ∀ c a w n v, Q (.panic c) (a.put (some n) v) w → Q (.panic c) a w) (u : World) (bd : Nat) (s2 s4 : Value) (HG : Glob u) (HD : Blk u bd (vals .u8 64 (dg abc)) 24) (C0 : ∀ w', Below u.heap.size u w' → w'.cell? ⟨bd, 0, none⟩ = some (.int .u8 221)) (C1 : ∀ w', Below u.heap.size u w' → w'.cell? ⟨bd, 1, none⟩ = some (.int .u8 175)) (C2 : ∀ w', Below u.heap.size u w' → w'.cell? ⟨bd, 2, none⟩ = some (.int .u8 53)) (C3 : ∀ w', Below u.heap.size u w' → w'.cell? ⟨bd, 3, none⟩ = some (.int .u8 161)) (C63 : ∀ w', Below u.heap.size u w' → w'.cell? ⟨bd, 63, none⟩ = some (.int .u8 159)) (H : ∀ (b1 : Nat) (r : Nat → Nat) (f : Nat → Nat) (n : Nat) (b2 : Nat) (r2 : Nat → Nat) (f2 : Nat → Nat) (n2 : Nat) (w : World), Below u.heap.size u w → Cel w b1 #[.int .u8 97] → u.heap.size ≤ b1 → Rep r f n [97] → Cel w b2 #[.int .u8 98, .int .u8 99] → u.heap.size ≤ b2 → Rep r2 f2 n2 abc → Q .normal { tmps := List.toArray ((.bool true) :: (.pointer (some ⟨bd, 0, none⟩)) :: s2 :: s2 :: s4 :: (.agg (vals .u8 64 (dg abc))) :: (.pointer (some ⟨bd, 0, none⟩)) :: (.int .u8 221) :: (.bool true) :: (.bool true) :: (.pointer (some ⟨bd, 1, none⟩)) :: (.int .u8 175) :: (.bool true) :: (.bool true) :: (.bool true) :: (.pointer (some ⟨bd, 2, none⟩)) :: (.int .u8 53) :: (.bool true) :: (.bool true) :: (.bool true) :: (.pointer (some ⟨bd, 3, none⟩)) :: (.int .u8 161) :: (.bool true) :: (.bool true) :: (.bool true) :: (.pointer (some ⟨bd, 63, none⟩)) :: (.int .u8 159) :: (.bool true) :: (.bool true) :: (.bool true) :: (.agg (stc (fun _ => 0) (fun _ => 0) 0)) :: (.slice (some ⟨b1, 0, none⟩) 1 1) :: (.slice (some ⟨b1, 0, none⟩) 1 1) :: (.agg (stc r f n)) :: (.slice (some ⟨b2, 0, none⟩) 2 2) :: (.slice (some ⟨b2, 0, none⟩) 2 2) :: (.agg (stc r2 f2 n2)) :: (.agg (vals .u8 64 (dg abc))) :: (.agg (vals .u8 64 (dg abc))) :: (.bool true) :: (.bool true) :: []), defers := [] } w) (b1 : Nat) (r : Nat → Nat) (f : Nat → Nat) (n : Nat) (b2 : Nat) (r2 : Nat → Nat) (f2 : Nat → Nat) (n2 : Nat) (w : World) (hS : Below u.heap.size u w) (c1 : Cel w b1 #[.int .u8 97]) (g1 : u.heap.size ≤ b1) (hR : Rep r f n [97]) (c2 : Cel w b2 #[.int .u8 98, .int .u8 99]) (g2 : u.heap.size ≤ b2) (hR2 : Rep r2 f2 n2 abc) :
    wpAnyH Tryd.prog .any awOps Q (fun w' => Below u.heap.size u w') 0 (List.toArray (true :: true :: true :: true :: true :: true :: true :: true :: true :: true :: true :: true :: true :: true :: true :: true :: true :: true :: true :: true :: true :: true :: true :: true :: true :: true :: true :: true :: true :: true :: true :: true :: true :: true :: true :: true :: [])) { tmps := List.toArray ((.bool true) :: (.pointer (some ⟨bd, 0, none⟩)) :: s2 :: s2 :: s4 :: (.agg (vals .u8 64 (dg abc))) :: (.pointer (some ⟨bd, 0, none⟩)) :: (.int .u8 221) :: (.bool true) :: (.bool true) :: (.pointer (some ⟨bd, 1, none⟩)) :: (.int .u8 175) :: (.bool true) :: (.bool true) :: (.bool true) :: (.pointer (some ⟨bd, 2, none⟩)) :: (.int .u8 53) :: (.bool true) :: (.bool true) :: (.bool true) :: (.pointer (some ⟨bd, 3, none⟩)) :: (.int .u8 161) :: (.bool true) :: (.bool true) :: (.bool true) :: (.pointer (some ⟨bd, 63, none⟩)) :: (.int .u8 159) :: (.bool true) :: (.bool true) :: (.bool true) :: (.agg (stc (fun _ => 0) (fun _ => 0) 0)) :: (.slice (some ⟨b1, 0, none⟩) 1 1) :: (.slice (some ⟨b1, 0, none⟩) 1 1) :: (.agg (stc r f n)) :: (.slice (some ⟨b2, 0, none⟩) 2 2) :: (.slice (some ⟨b2, 0, none⟩) 2 2) :: (.agg (stc r2 f2 n2)) :: (.agg (vals .u8 64 (dg abc))) :: (.agg (vals .u8 64 (dg abc))) :: (.bool true) :: (.bool true) :: []), defers := [] } w := by
  have _ := hQ
  have _ := u
  have _ := bd
  have _ := s2
  have _ := s4
  have _ := HG
  have _ := HD
  have _ := C0
  have _ := C1
  have _ := C2
  have _ := C3
  have _ := C63
  exact wpAnyH_done (by kernel_rfl) (H b1 r f n b2 r2 f2 n2 w hS c1 g1 hR c2 g2 hR2) _
set_option maxRecDepth 100000 in
set_option maxHeartbeats 1000000 in
theorem aw_1 (Q : Exit → Act → World → Prop) (hQ : ∀ c a w n v, Q (.panic c) (a.put (some n) v) w → Q (.panic c) a w) (u : World) (bd : Nat) (s2 s4 : Value) (HG : Glob u) (HD : Blk u bd (vals .u8 64 (dg abc)) 24) (C0 : ∀ w', Below u.heap.size u w' → w'.cell? ⟨bd, 0, none⟩ = some (.int .u8 221)) (C1 : ∀ w', Below u.heap.size u w' → w'.cell? ⟨bd, 1, none⟩ = some (.int .u8 175)) (C2 : ∀ w', Below u.heap.size u w' → w'.cell? ⟨bd, 2, none⟩ = some (.int .u8 53)) (C3 : ∀ w', Below u.heap.size u w' → w'.cell? ⟨bd, 3, none⟩ = some (.int .u8 161)) (C63 : ∀ w', Below u.heap.size u w' → w'.cell? ⟨bd, 63, none⟩ = some (.int .u8 159)) (H : ∀ (b1 : Nat) (r : Nat → Nat) (f : Nat → Nat) (n : Nat) (b2 : Nat) (r2 : Nat → Nat) (f2 : Nat → Nat) (n2 : Nat) (w : World), Below u.heap.size u w → Cel w b1 #[.int .u8 97] → u.heap.size ≤ b1 → Rep r f n [97] → Cel w b2 #[.int .u8 98, .int .u8 99] → u.heap.size ≤ b2 → Rep r2 f2 n2 abc → Q .normal { tmps := List.toArray ((.bool true) :: (.pointer (some ⟨bd, 0, none⟩)) :: s2 :: s2 :: s4 :: (.agg (vals .u8 64 (dg abc))) :: (.pointer (some ⟨bd, 0, none⟩)) :: (.int .u8 221) :: (.bool true) :: (.bool true) :: (.pointer (some ⟨bd, 1, none⟩)) :: (.int .u8 175) :: (.bool true) :: (.bool true) :: (.bool true) :: (.pointer (some ⟨bd, 2, none⟩)) :: (.int .u8 53) :: (.bool true) :: (.bool true) :: (.bool true) :: (.pointer (some ⟨bd, 3, none⟩)) :: (.int .u8 161) :: (.bool true) :: (.bool true) :: (.bool true) :: (.pointer (some ⟨bd, 63, none⟩)) :: (.int .u8 159) :: (.bool true) :: (.bool true) :: (.bool true) :: (.agg (stc (fun _ => 0) (fun _ => 0) 0)) :: (.slice (some ⟨b1, 0, none⟩) 1 1) :: (.slice (some ⟨b1, 0, none⟩) 1 1) :: (.agg (stc r f n)) :: (.slice (some ⟨b2, 0, none⟩) 2 2) :: (.slice (some ⟨b2, 0, none⟩) 2 2) :: (.agg (stc r2 f2 n2)) :: (.agg (vals .u8 64 (dg abc))) :: (.agg (vals .u8 64 (dg abc))) :: (.bool true) :: (.bool true) :: []), defers := [] } w) (b1 : Nat) (r : Nat → Nat) (f : Nat → Nat) (n : Nat) (b2 : Nat) (r2 : Nat → Nat) (f2 : Nat → Nat) (n2 : Nat) (w : World) (hS : Below u.heap.size u w) (c1 : Cel w b1 #[.int .u8 97]) (g1 : u.heap.size ≤ b1) (hR : Rep r f n [97]) (c2 : Cel w b2 #[.int .u8 98, .int .u8 99]) (g2 : u.heap.size ≤ b2) (hR2 : Rep r2 f2 n2 abc) :
    wpAnyH Tryd.prog .any awOps Q (fun w' => Below u.heap.size u w') 4 (List.toArray (true :: true :: true :: true :: true :: true :: true :: true :: true :: true :: true :: true :: true :: true :: true :: true :: true :: true :: true :: true :: true :: true :: true :: true :: true :: true :: true :: true :: true :: true :: true :: false :: true :: false :: false :: false :: [])) { tmps := List.toArray ((.bool false) :: (.pointer (some ⟨bd, 0, none⟩)) :: s2 :: s2 :: s4 :: (.agg (vals .u8 64 (dg abc))) :: (.pointer (some ⟨bd, 0, none⟩)) :: (.int .u8 221) :: (.bool true) :: (.bool true) :: (.pointer (some ⟨bd, 1, none⟩)) :: (.int .u8 175) :: (.bool true) :: (.bool true) :: (.bool true) :: (.pointer (some ⟨bd, 2, none⟩)) :: (.int .u8 53) :: (.bool true) :: (.bool true) :: (.bool true) :: (.pointer (some ⟨bd, 3, none⟩)) :: (.int .u8 161) :: (.bool true) :: (.bool true) :: (.bool true) :: (.pointer (some ⟨bd, 63, none⟩)) :: (.int .u8 159) :: (.bool true) :: (.bool true) :: (.bool true) :: (.agg (stc (fun _ => 0) (fun _ => 0) 0)) :: (.slice (some ⟨b1, 0, none⟩) 1 1) :: (.slice (some ⟨b1, 0, none⟩) 1 1) :: (.agg (stc r f n)) :: (.slice (some ⟨b2, 0, none⟩) 2 2) :: (.slice (some ⟨b2, 0, none⟩) 2 2) :: (.agg (stc r2 f2 n2)) :: undef :: (.agg (vals .u8 64 (dg abc))) :: undef :: undef :: []), defers := [] } w := by
  refine wpAnyH_ready (rs := [31]) (by kernel_rfl) (by simp) ?_
  refine AllReadyH.cons (o := awOp31) rfl (fun K hK => ?_) AllReadyH.nil
  unfold awOp31
  go_simp
  refine (sum_at r2 f2 n2 abc _ w (by rfl) (HG.low hS) hR2 (by have := hR2.len; simp [abc] at this; omega)).mono ?_
  rintro e x ⟨rfl, hb⟩
  dsimp only
  have hS' := keepCall hb rfl hS
  refine hK.out _ _ hS' (fun _ => ?_)
  clear hK K
  simp only [List.setIfInBounds_toArray, List.set_cons_zero, List.set_cons_succ]
  refine wpAnyH_take (i := 33) (oi := awOp33) (v := .bool true) rfl (by kernel_rfl) (by kernel_rfl) (by kernel_rfl) (fun _ _ _ => hQ _ _ _ _ _) (Or.inl ⟨by rfl, fun w hSw => by have h0 := eq_self (dg abc); unfold awOp33; go_simp⟩) hS' ?_
  try simp only [awOp33, Act.put, List.setIfInBounds_toArray, List.set_cons_zero, List.set_cons_succ]
  refine wpAnyH_take (i := 34) (oi := awOp34) (v := .bool true) rfl (by kernel_rfl) (by kernel_rfl) (by kernel_rfl) (fun _ _ _ => hQ _ _ _ _ _) (Or.inl ⟨by rfl, fun w hSw => by unfold awOp34; go_simp⟩) hS' ?_
  try simp only [awOp34, Act.put, List.setIfInBounds_toArray, List.set_cons_zero, List.set_cons_succ]
  refine wpAnyH_take (i := 35) (oi := awOp35) (v := .bool true) rfl (by kernel_rfl) (by kernel_rfl) (by kernel_rfl) (fun _ _ _ => hQ _ _ _ _ _) (Or.inl ⟨by rfl, fun w hSw => by unfold awOp35; go_simp⟩) hS' ?_
  try simp only [awOp35, Act.put, List.setIfInBounds_toArray, List.set_cons_zero, List.set_cons_succ]
  exact aw_0 Q hQ u bd s2 s4 HG HD C0 C1 C2 C3 C63 H b1 r f n b2 r2 f2 n2 x hS' (c1.low hb) g1 hR (c2.low hb) g2 hR2
set_option maxRecDepth 100000 in
set_option maxHeartbeats 1000000 in
theorem aw_2 (Q : Exit → Act → World → Prop) (hQ : ∀ c a w n v, Q (.panic c) (a.put (some n) v) w → Q (.panic c) a w) (u : World) (bd : Nat) (s2 s4 : Value) (HG : Glob u) (HD : Blk u bd (vals .u8 64 (dg abc)) 24) (C0 : ∀ w', Below u.heap.size u w' → w'.cell? ⟨bd, 0, none⟩ = some (.int .u8 221)) (C1 : ∀ w', Below u.heap.size u w' → w'.cell? ⟨bd, 1, none⟩ = some (.int .u8 175)) (C2 : ∀ w', Below u.heap.size u w' → w'.cell? ⟨bd, 2, none⟩ = some (.int .u8 53)) (C3 : ∀ w', Below u.heap.size u w' → w'.cell? ⟨bd, 3, none⟩ = some (.int .u8 161)) (C63 : ∀ w', Below u.heap.size u w' → w'.cell? ⟨bd, 63, none⟩ = some (.int .u8 159)) (H : ∀ (b1 : Nat) (r : Nat → Nat) (f : Nat → Nat) (n : Nat) (b2 : Nat) (r2 : Nat → Nat) (f2 : Nat → Nat) (n2 : Nat) (w : World), Below u.heap.size u w → Cel w b1 #[.int .u8 97] → u.heap.size ≤ b1 → Rep r f n [97] → Cel w b2 #[.int .u8 98, .int .u8 99] → u.heap.size ≤ b2 → Rep r2 f2 n2 abc → Q .normal { tmps := List.toArray ((.bool true) :: (.pointer (some ⟨bd, 0, none⟩)) :: s2 :: s2 :: s4 :: (.agg (vals .u8 64 (dg abc))) :: (.pointer (some ⟨bd, 0, none⟩)) :: (.int .u8 221) :: (.bool true) :: (.bool true) :: (.pointer (some ⟨bd, 1, none⟩)) :: (.int .u8 175) :: (.bool true) :: (.bool true) :: (.bool true) :: (.pointer (some ⟨bd, 2, none⟩)) :: (.int .u8 53) :: (.bool true) :: (.bool true) :: (.bool true) :: (.pointer (some ⟨bd, 3, none⟩)) :: (.int .u8 161) :: (.bool true) :: (.bool true) :: (.bool true) :: (.pointer (some ⟨bd, 63, none⟩)) :: (.int .u8 159) :: (.bool true) :: (.bool true) :: (.bool true) :: (.agg (stc (fun _ => 0) (fun _ => 0) 0)) :: (.slice (some ⟨b1, 0, none⟩) 1 1) :: (.slice (some ⟨b1, 0, none⟩) 1 1) :: (.agg (stc r f n)) :: (.slice (some ⟨b2, 0, none⟩) 2 2) :: (.slice (some ⟨b2, 0, none⟩) 2 2) :: (.agg (stc r2 f2 n2)) :: (.agg (vals .u8 64 (dg abc))) :: (.agg (vals .u8 64 (dg abc))) :: (.bool true) :: (.bool true) :: []), defers := [] } w) (b1 : Nat) (r : Nat → Nat) (f : Nat → Nat) (n : Nat) (b2 : Nat) (w : World) (hS : Below u.heap.size u w) (c1 : Cel w b1 #[.int .u8 97]) (g1 : u.heap.size ≤ b1) (hR : Rep r f n [97]) (c2 : Cel w b2 #[.int .u8 98, .int .u8 99]) (g2 : u.heap.size ≤ b2) :
    wpAnyH Tryd.prog .any awOps Q (fun w' => Below u.heap.size u w') 5 (List.toArray (true :: true :: true :: true :: true :: true :: true :: true :: true :: true :: true :: true :: true :: true :: true :: true :: true :: true :: true :: true :: true :: true :: true :: true :: true :: true :: true :: true :: true :: true :: false :: false :: true :: false :: false :: false :: [])) { tmps := List.toArray ((.bool false) :: (.pointer (some ⟨bd, 0, none⟩)) :: s2 :: s2 :: s4 :: (.agg (vals .u8 64 (dg abc))) :: (.pointer (some ⟨bd, 0, none⟩)) :: (.int .u8 221) :: (.bool true) :: (.bool true) :: (.pointer (some ⟨bd, 1, none⟩)) :: (.int .u8 175) :: (.bool true) :: (.bool true) :: (.bool true) :: (.pointer (some ⟨bd, 2, none⟩)) :: (.int .u8 53) :: (.bool true) :: (.bool true) :: (.bool true) :: (.pointer (some ⟨bd, 3, none⟩)) :: (.int .u8 161) :: (.bool true) :: (.bool true) :: (.bool true) :: (.pointer (some ⟨bd, 63, none⟩)) :: (.int .u8 159) :: (.bool true) :: (.bool true) :: (.bool true) :: (.agg (stc (fun _ => 0) (fun _ => 0) 0)) :: (.slice (some ⟨b1, 0, none⟩) 1 1) :: (.slice (some ⟨b1, 0, none⟩) 1 1) :: (.agg (stc r f n)) :: (.slice (some ⟨b2, 0, none⟩) 2 2) :: (.slice (some ⟨b2, 0, none⟩) 2 2) :: undef :: undef :: (.agg (vals .u8 64 (dg abc))) :: undef :: undef :: []), defers := [] } w := by
  refine wpAnyH_ready (rs := [30]) (by kernel_rfl) (by simp) ?_
  refine AllReadyH.cons (o := awOp30) rfl (fun K hK => ?_) AllReadyH.nil
  unfold awOp30
  go_simp
  refine (write_at r f n [97] [98, 99] (some ⟨b2, 0, none⟩) 2 _ w (by rfl) (HG.low hS) hR (by decide) (rds_cel c2 _ bc_get) (by decide) (by have := hR.len; simp at this; simp; omega)).mono ?_
  rintro e x ⟨r2, f2, n2, rfl, hR2, hb⟩
  dsimp only
  have hS' := keepCall hb rfl hS
  refine hK.out _ _ hS' (fun _ => ?_)
  clear hK K
  simp only [List.setIfInBounds_toArray, List.set_cons_zero, List.set_cons_succ]
  exact aw_1 Q hQ u bd s2 s4 HG HD C0 C1 C2 C3 C63 H b1 r f n b2 r2 f2 n2 x hS' (c1.low hb) g1 hR (c2.low hb) g2 (hR2)
set_option maxRecDepth 100000 in
set_option maxHeartbeats 1000000 in
theorem aw_3 (Q : Exit → Act → World → Prop) (hQ : ∀ c a w n v, Q (.panic c) (a.put (some n) v) w → Q (.panic c) a w) (u : World) (bd : Nat) (s2 s4 : Value) (HG : Glob u) (HD : Blk u bd (vals .u8 64 (dg abc)) 24) (C0 : ∀ w', Below u.heap.size u w' → w'.cell? ⟨bd, 0, none⟩ = some (.int .u8 221)) (C1 : ∀ w', Below u.heap.size u w' → w'.cell? ⟨bd, 1, none⟩ = some (.int .u8 175)) (C2 : ∀ w', Below u.heap.size u w' → w'.cell? ⟨bd, 2, none⟩ = some (.int .u8 53)) (C3 : ∀ w', Below u.heap.size u w' → w'.cell? ⟨bd, 3, none⟩ = some (.int .u8 161)) (C63 : ∀ w', Below u.heap.size u w' → w'.cell? ⟨bd, 63, none⟩ = some (.int .u8 159)) (H : ∀ (b1 : Nat) (r : Nat → Nat) (f : Nat → Nat) (n : Nat) (b2 : Nat) (r2 : Nat → Nat) (f2 : Nat → Nat) (n2 : Nat) (w : World), Below u.heap.size u w → Cel w b1 #[.int .u8 97] → u.heap.size ≤ b1 → Rep r f n [97] → Cel w b2 #[.int .u8 98, .int .u8 99] → u.heap.size ≤ b2 → Rep r2 f2 n2 abc → Q .normal { tmps := List.toArray ((.bool true) :: (.pointer (some ⟨bd, 0, none⟩)) :: s2 :: s2 :: s4 :: (.agg (vals .u8 64 (dg abc))) :: (.pointer (some ⟨bd, 0, none⟩)) :: (.int .u8 221) :: (.bool true) :: (.bool true) :: (.pointer (some ⟨bd, 1, none⟩)) :: (.int .u8 175) :: (.bool true) :: (.bool true) :: (.bool true) :: (.pointer (some ⟨bd, 2, none⟩)) :: (.int .u8 53) :: (.bool true) :: (.bool true) :: (.bool true) :: (.pointer (some ⟨bd, 3, none⟩)) :: (.int .u8 161) :: (.bool true) :: (.bool true) :: (.bool true) :: (.pointer (some ⟨bd, 63, none⟩)) :: (.int .u8 159) :: (.bool true) :: (.bool true) :: (.bool true) :: (.agg (stc (fun _ => 0) (fun _ => 0) 0)) :: (.slice (some ⟨b1, 0, none⟩) 1 1) :: (.slice (some ⟨b1, 0, none⟩) 1 1) :: (.agg (stc r f n)) :: (.slice (some ⟨b2, 0, none⟩) 2 2) :: (.slice (some ⟨b2, 0, none⟩) 2 2) :: (.agg (stc r2 f2 n2)) :: (.agg (vals .u8 64 (dg abc))) :: (.agg (vals .u8 64 (dg abc))) :: (.bool true) :: (.bool true) :: []), defers := [] } w) (b1 : Nat) (b2 : Nat) (w : World) (hS : Below u.heap.size u w) (c1 : Cel w b1 #[.int .u8 97]) (g1 : u.heap.size ≤ b1) (c2 : Cel w b2 #[.int .u8 98, .int .u8 99]) (g2 : u.heap.size ≤ b2) :
    wpAnyH Tryd.prog .any awOps Q (fun w' => Below u.heap.size u w') 6 (List.toArray (true :: true :: true :: true :: true :: true :: true :: true :: true :: true :: true :: true :: true :: true :: true :: true :: true :: true :: true :: true :: true :: true :: true :: true :: true :: true :: true :: false :: true :: true :: false :: false :: true :: false :: false :: false :: [])) { tmps := List.toArray ((.bool false) :: (.pointer (some ⟨bd, 0, none⟩)) :: s2 :: s2 :: s4 :: (.agg (vals .u8 64 (dg abc))) :: (.pointer (some ⟨bd, 0, none⟩)) :: (.int .u8 221) :: (.bool true) :: (.bool true) :: (.pointer (some ⟨bd, 1, none⟩)) :: (.int .u8 175) :: (.bool true) :: (.bool true) :: (.bool true) :: (.pointer (some ⟨bd, 2, none⟩)) :: (.int .u8 53) :: (.bool true) :: (.bool true) :: (.bool true) :: (.pointer (some ⟨bd, 3, none⟩)) :: (.int .u8 161) :: (.bool true) :: (.bool true) :: (.bool true) :: (.pointer (some ⟨bd, 63, none⟩)) :: (.int .u8 159) :: (.bool true) :: (.bool true) :: (.bool true) :: (.agg (stc (fun _ => 0) (fun _ => 0) 0)) :: (.slice (some ⟨b1, 0, none⟩) 1 1) :: (.slice (some ⟨b1, 0, none⟩) 1 1) :: undef :: (.slice (some ⟨b2, 0, none⟩) 2 2) :: (.slice (some ⟨b2, 0, none⟩) 2 2) :: undef :: undef :: (.agg (vals .u8 64 (dg abc))) :: undef :: undef :: []), defers := [] } w := by
  refine wpAnyH_ready (rs := [27]) (by kernel_rfl) (by simp) ?_
  refine AllReadyH.cons (o := awOp27) rfl (fun K hK => ?_) AllReadyH.nil
  unfold awOp27
  go_simp
  refine (write_at (fun _ => 0) (fun _ => 0) 0 [] [97] (some ⟨b1, 0, none⟩) 1 _ w (by rfl) (HG.low hS) rep_none (by decide) (rds_cel c1 _ a_get) (by decide) (by decide)).mono ?_
  rintro e x ⟨r, f, n, rfl, hR, hb⟩
  dsimp only
  have hS' := keepCall hb rfl hS
  refine hK.out _ _ hS' (fun _ => ?_)
  clear hK K
  simp only [List.setIfInBounds_toArray, List.set_cons_zero, List.set_cons_succ]
  exact aw_2 Q hQ u bd s2 s4 HG HD C0 C1 C2 C3 C63 H b1 r f n b2 x hS' (c1.low hb) g1 (hR) (c2.low hb) g2
set_option maxRecDepth 100000 in
set_option maxHeartbeats 1000000 in
theorem aw_4 (Q : Exit → Act → World → Prop) (hQ : ∀ c a w n v, Q (.panic c) (a.put (some n) v) w → Q (.panic c) a w) (u : World) (bd : Nat) (s2 s4 : Value) (HG : Glob u) (HD : Blk u bd (vals .u8 64 (dg abc)) 24) (C0 : ∀ w', Below u.heap.size u w' → w'.cell? ⟨bd, 0, none⟩ = some (.int .u8 221)) (C1 : ∀ w', Below u.heap.size u w' → w'.cell? ⟨bd, 1, none⟩ = some (.int .u8 175)) (C2 : ∀ w', Below u.heap.size u w' → w'.cell? ⟨bd, 2, none⟩ = some (.int .u8 53)) (C3 : ∀ w', Below u.heap.size u w' → w'.cell? ⟨bd, 3, none⟩ = some (.int .u8 161)) (C63 : ∀ w', Below u.heap.size u w' → w'.cell? ⟨bd, 63, none⟩ = some (.int .u8 159)) (H : ∀ (b1 : Nat) (r : Nat → Nat) (f : Nat → Nat) (n : Nat) (b2 : Nat) (r2 : Nat → Nat) (f2 : Nat → Nat) (n2 : Nat) (w : World), Below u.heap.size u w → Cel w b1 #[.int .u8 97] → u.heap.size ≤ b1 → Rep r f n [97] → Cel w b2 #[.int .u8 98, .int .u8 99] → u.heap.size ≤ b2 → Rep r2 f2 n2 abc → Q .normal { tmps := List.toArray ((.bool true) :: (.pointer (some ⟨bd, 0, none⟩)) :: s2 :: s2 :: s4 :: (.agg (vals .u8 64 (dg abc))) :: (.pointer (some ⟨bd, 0, none⟩)) :: (.int .u8 221) :: (.bool true) :: (.bool true) :: (.pointer (some ⟨bd, 1, none⟩)) :: (.int .u8 175) :: (.bool true) :: (.bool true) :: (.bool true) :: (.pointer (some ⟨bd, 2, none⟩)) :: (.int .u8 53) :: (.bool true) :: (.bool true) :: (.bool true) :: (.pointer (some ⟨bd, 3, none⟩)) :: (.int .u8 161) :: (.bool true) :: (.bool true) :: (.bool true) :: (.pointer (some ⟨bd, 63, none⟩)) :: (.int .u8 159) :: (.bool true) :: (.bool true) :: (.bool true) :: (.agg (stc (fun _ => 0) (fun _ => 0) 0)) :: (.slice (some ⟨b1, 0, none⟩) 1 1) :: (.slice (some ⟨b1, 0, none⟩) 1 1) :: (.agg (stc r f n)) :: (.slice (some ⟨b2, 0, none⟩) 2 2) :: (.slice (some ⟨b2, 0, none⟩) 2 2) :: (.agg (stc r2 f2 n2)) :: (.agg (vals .u8 64 (dg abc))) :: (.agg (vals .u8 64 (dg abc))) :: (.bool true) :: (.bool true) :: []), defers := [] } w) (b1 : Nat) (r : Nat → Nat) (f : Nat → Nat) (n : Nat) (b2 : Nat) (w : World) (hS : Below u.heap.size u w) (c1 : Cel w b1 #[.int .u8 97]) (g1 : u.heap.size ≤ b1) (hR : Rep r f n [97]) (c2 : Cel w b2 #[.int .u8 98, .int .u8 99]) (g2 : u.heap.size ≤ b2) :
    wpAnyH Tryd.prog .any awOps Q (fun w' => Below u.heap.size u w') 6 (List.toArray (true :: true :: true :: true :: true :: true :: true :: true :: true :: true :: true :: true :: true :: true :: true :: true :: true :: true :: true :: true :: true :: true :: true :: true :: true :: true :: true :: true :: true :: false :: false :: false :: true :: false :: false :: false :: [])) { tmps := List.toArray ((.bool false) :: (.pointer (some ⟨bd, 0, none⟩)) :: s2 :: s2 :: s4 :: (.agg (vals .u8 64 (dg abc))) :: (.pointer (some ⟨bd, 0, none⟩)) :: (.int .u8 221) :: (.bool true) :: (.bool true) :: (.pointer (some ⟨bd, 1, none⟩)) :: (.int .u8 175) :: (.bool true) :: (.bool true) :: (.bool true) :: (.pointer (some ⟨bd, 2, none⟩)) :: (.int .u8 53) :: (.bool true) :: (.bool true) :: (.bool true) :: (.pointer (some ⟨bd, 3, none⟩)) :: (.int .u8 161) :: (.bool true) :: (.bool true) :: (.bool true) :: (.pointer (some ⟨bd, 63, none⟩)) :: (.int .u8 159) :: (.bool true) :: (.bool true) :: (.bool true) :: (.agg (stc (fun _ => 0) (fun _ => 0) 0)) :: (.slice (some ⟨b1, 0, none⟩) 1 1) :: (.slice (some ⟨b1, 0, none⟩) 1 1) :: (.agg (stc r f n)) :: (.slice (some ⟨b2, 0, none⟩) 2 2) :: undef :: undef :: undef :: (.agg (vals .u8 64 (dg abc))) :: undef :: undef :: []), defers := [] } w := by
  refine wpAnyH_ready (rs := [29]) (by kernel_rfl) (by simp) ?_
  refine AllReadyH.cons (o := awOp29) rfl (fun K hK => ?_) AllReadyH.nil
  have hS' := Below.freeze hS (a := ⟨b2, (#[.int .u8 98, .int .u8 99] : Array Value).size, none⟩) g2
  unfold awOp29
  rw [if_pos (by rfl)]
  refine wp_conv22 _ rfl rfl c2 ?_
  refine hK.out _ _ hS' (fun _ => ?_)
  clear hK K
  simp only [Act.put, List.setIfInBounds_toArray, List.set_cons_zero, List.set_cons_succ]
  exact aw_2 Q hQ u bd s2 s4 HG HD C0 C1 C2 C3 C63 H b1 r f n b2 (w.freeze ⟨b2, (#[.int .u8 98, .int .u8 99] : Array Value).size, none⟩ 1) hS' (c1.freeze _) g1 hR (c2.freeze _) g2
set_option maxRecDepth 100000 in
set_option maxHeartbeats 1000000 in
theorem aw_5 (Q : Exit → Act → World → Prop) (hQ : ∀ c a w n v, Q (.panic c) (a.put (some n) v) w → Q (.panic c) a w) (u : World) (bd : Nat) (s2 s4 : Value) (HG : Glob u) (HD : Blk u bd (vals .u8 64 (dg abc)) 24) (C0 : ∀ w', Below u.heap.size u w' → w'.cell? ⟨bd, 0, none⟩ = some (.int .u8 221)) (C1 : ∀ w', Below u.heap.size u w' → w'.cell? ⟨bd, 1, none⟩ = some (.int .u8 175)) (C2 : ∀ w', Below u.heap.size u w' → w'.cell? ⟨bd, 2, none⟩ = some (.int .u8 53)) (C3 : ∀ w', Below u.heap.size u w' → w'.cell? ⟨bd, 3, none⟩ = some (.int .u8 161)) (C63 : ∀ w', Below u.heap.size u w' → w'.cell? ⟨bd, 63, none⟩ = some (.int .u8 159)) (H : ∀ (b1 : Nat) (r : Nat → Nat) (f : Nat → Nat) (n : Nat) (b2 : Nat) (r2 : Nat → Nat) (f2 : Nat → Nat) (n2 : Nat) (w : World), Below u.heap.size u w → Cel w b1 #[.int .u8 97] → u.heap.size ≤ b1 → Rep r f n [97] → Cel w b2 #[.int .u8 98, .int .u8 99] → u.heap.size ≤ b2 → Rep r2 f2 n2 abc → Q .normal { tmps := List.toArray ((.bool true) :: (.pointer (some ⟨bd, 0, none⟩)) :: s2 :: s2 :: s4 :: (.agg (vals .u8 64 (dg abc))) :: (.pointer (some ⟨bd, 0, none⟩)) :: (.int .u8 221) :: (.bool true) :: (.bool true) :: (.pointer (some ⟨bd, 1, none⟩)) :: (.int .u8 175) :: (.bool true) :: (.bool true) :: (.bool true) :: (.pointer (some ⟨bd, 2, none⟩)) :: (.int .u8 53) :: (.bool true) :: (.bool true) :: (.bool true) :: (.pointer (some ⟨bd, 3, none⟩)) :: (.int .u8 161) :: (.bool true) :: (.bool true) :: (.bool true) :: (.pointer (some ⟨bd, 63, none⟩)) :: (.int .u8 159) :: (.bool true) :: (.bool true) :: (.bool true) :: (.agg (stc (fun _ => 0) (fun _ => 0) 0)) :: (.slice (some ⟨b1, 0, none⟩) 1 1) :: (.slice (some ⟨b1, 0, none⟩) 1 1) :: (.agg (stc r f n)) :: (.slice (some ⟨b2, 0, none⟩) 2 2) :: (.slice (some ⟨b2, 0, none⟩) 2 2) :: (.agg (stc r2 f2 n2)) :: (.agg (vals .u8 64 (dg abc))) :: (.agg (vals .u8 64 (dg abc))) :: (.bool true) :: (.bool true) :: []), defers := [] } w) (b1 : Nat) (b2 : Nat) (w : World) (hS : Below u.heap.size u w) (c1 : Cel w b1 #[.int .u8 97]) (g1 : u.heap.size ≤ b1) (c2 : Cel w b2 #[.int .u8 98, .int .u8 99]) (g2 : u.heap.size ≤ b2) :
    wpAnyH Tryd.prog .any awOps Q (fun w' => Below u.heap.size u w') 7 (List.toArray (true :: true :: true :: true :: true :: true :: true :: true :: true :: true :: true :: true :: true :: true :: true :: true :: true :: true :: true :: true :: true :: true :: true :: true :: false :: true :: true :: false :: true :: true :: false :: false :: true :: false :: false :: false :: [])) { tmps := List.toArray ((.bool false) :: (.pointer (some ⟨bd, 0, none⟩)) :: s2 :: s2 :: s4 :: (.agg (vals .u8 64 (dg abc))) :: (.pointer (some ⟨bd, 0, none⟩)) :: (.int .u8 221) :: (.bool true) :: (.bool true) :: (.pointer (some ⟨bd, 1, none⟩)) :: (.int .u8 175) :: (.bool true) :: (.bool true) :: (.bool true) :: (.pointer (some ⟨bd, 2, none⟩)) :: (.int .u8 53) :: (.bool true) :: (.bool true) :: (.bool true) :: (.pointer (some ⟨bd, 3, none⟩)) :: (.int .u8 161) :: (.bool true) :: (.bool true) :: (.bool true) :: (.pointer (some ⟨bd, 63, none⟩)) :: (.int .u8 159) :: (.bool true) :: (.bool true) :: (.bool true) :: undef :: (.slice (some ⟨b1, 0, none⟩) 1 1) :: (.slice (some ⟨b1, 0, none⟩) 1 1) :: undef :: (.slice (some ⟨b2, 0, none⟩) 2 2) :: (.slice (some ⟨b2, 0, none⟩) 2 2) :: undef :: undef :: (.agg (vals .u8 64 (dg abc))) :: undef :: undef :: []), defers := [] } w := by
  refine wpAnyH_ready (rs := [24]) (by kernel_rfl) (by simp) ?_
  refine AllReadyH.cons (o := awOp24) rfl (fun K hK => ?_) AllReadyH.nil
  unfold awOp24
  go_simp
  refine (new_any w).mono ?_
  rintro e x ⟨rfl, hb⟩
  dsimp only
  have hS' := keepCall hb rfl hS
  refine hK.out _ _ hS' (fun _ => ?_)
  clear hK K
  simp only [List.setIfInBounds_toArray, List.set_cons_zero, List.set_cons_succ]
  exact aw_3 Q hQ u bd s2 s4 HG HD C0 C1 C2 C3 C63 H b1 b2 x hS' (c1.low hb) g1 (c2.low hb) g2
set_option maxRecDepth 100000 in
set_option maxHeartbeats 1000000 in
theorem aw_6 (Q : Exit → Act → World → Prop) (hQ : ∀ c a w n v, Q (.panic c) (a.put (some n) v) w → Q (.panic c) a w) (u : World) (bd : Nat) (s2 s4 : Value) (HG : Glob u) (HD : Blk u bd (vals .u8 64 (dg abc)) 24) (C0 : ∀ w', Below u.heap.size u w' → w'.cell? ⟨bd, 0, none⟩ = some (.int .u8 221)) (C1 : ∀ w', Below u.heap.size u w' → w'.cell? ⟨bd, 1, none⟩ = some (.int .u8 175)) (C2 : ∀ w', Below u.heap.size u w' → w'.cell? ⟨bd, 2, none⟩ = some (.int .u8 53)) (C3 : ∀ w', Below u.heap.size u w' → w'.cell? ⟨bd, 3, none⟩ = some (.int .u8 161)) (C63 : ∀ w', Below u.heap.size u w' → w'.cell? ⟨bd, 63, none⟩ = some (.int .u8 159)) (H : ∀ (b1 : Nat) (r : Nat → Nat) (f : Nat → Nat) (n : Nat) (b2 : Nat) (r2 : Nat → Nat) (f2 : Nat → Nat) (n2 : Nat) (w : World), Below u.heap.size u w → Cel w b1 #[.int .u8 97] → u.heap.size ≤ b1 → Rep r f n [97] → Cel w b2 #[.int .u8 98, .int .u8 99] → u.heap.size ≤ b2 → Rep r2 f2 n2 abc → Q .normal { tmps := List.toArray ((.bool true) :: (.pointer (some ⟨bd, 0, none⟩)) :: s2 :: s2 :: s4 :: (.agg (vals .u8 64 (dg abc))) :: (.pointer (some ⟨bd, 0, none⟩)) :: (.int .u8 221) :: (.bool true) :: (.bool true) :: (.pointer (some ⟨bd, 1, none⟩)) :: (.int .u8 175) :: (.bool true) :: (.bool true) :: (.bool true) :: (.pointer (some ⟨bd, 2, none⟩)) :: (.int .u8 53) :: (.bool true) :: (.bool true) :: (.bool true) :: (.pointer (some ⟨bd, 3, none⟩)) :: (.int .u8 161) :: (.bool true) :: (.bool true) :: (.bool true) :: (.pointer (some ⟨bd, 63, none⟩)) :: (.int .u8 159) :: (.bool true) :: (.bool true) :: (.bool true) :: (.agg (stc (fun _ => 0) (fun _ => 0) 0)) :: (.slice (some ⟨b1, 0, none⟩) 1 1) :: (.slice (some ⟨b1, 0, none⟩) 1 1) :: (.agg (stc r f n)) :: (.slice (some ⟨b2, 0, none⟩) 2 2) :: (.slice (some ⟨b2, 0, none⟩) 2 2) :: (.agg (stc r2 f2 n2)) :: (.agg (vals .u8 64 (dg abc))) :: (.agg (vals .u8 64 (dg abc))) :: (.bool true) :: (.bool true) :: []), defers := [] } w) (b1 : Nat) (b2 : Nat) (w : World) (hS : Below u.heap.size u w) (c1 : Cel w b1 #[.int .u8 97]) (g1 : u.heap.size ≤ b1) (c2 : Cel w b2 #[.int .u8 98, .int .u8 99]) (g2 : u.heap.size ≤ b2) :
    wpAnyH Tryd.prog .any awOps Q (fun w' => Below u.heap.size u w') 7 (List.toArray (true :: true :: true :: true :: true :: true :: true :: true :: true :: true :: true :: true :: true :: true :: true :: true :: true :: true :: true :: true :: true :: true :: true :: true :: true :: true :: false :: false :: true :: true :: false :: false :: true :: false :: false :: false :: [])) { tmps := List.toArray ((.bool false) :: (.pointer (some ⟨bd, 0, none⟩)) :: s2 :: s2 :: s4 :: (.agg (vals .u8 64 (dg abc))) :: (.pointer (some ⟨bd, 0, none⟩)) :: (.int .u8 221) :: (.bool true) :: (.bool true) :: (.pointer (some ⟨bd, 1, none⟩)) :: (.int .u8 175) :: (.bool true) :: (.bool true) :: (.bool true) :: (.pointer (some ⟨bd, 2, none⟩)) :: (.int .u8 53) :: (.bool true) :: (.bool true) :: (.bool true) :: (.pointer (some ⟨bd, 3, none⟩)) :: (.int .u8 161) :: (.bool true) :: (.bool true) :: (.bool true) :: (.pointer (some ⟨bd, 63, none⟩)) :: (.int .u8 159) :: (.bool true) :: (.bool true) :: (.bool true) :: (.agg (stc (fun _ => 0) (fun _ => 0) 0)) :: (.slice (some ⟨b1, 0, none⟩) 1 1) :: undef :: undef :: (.slice (some ⟨b2, 0, none⟩) 2 2) :: (.slice (some ⟨b2, 0, none⟩) 2 2) :: undef :: undef :: (.agg (vals .u8 64 (dg abc))) :: undef :: undef :: []), defers := [] } w := by
  refine wpAnyH_ready (rs := [26]) (by kernel_rfl) (by simp) ?_
  refine AllReadyH.cons (o := awOp26) rfl (fun K hK => ?_) AllReadyH.nil
  have hS' := Below.freeze hS (a := ⟨b1, (#[.int .u8 97] : Array Value).size, none⟩) g1
  unfold awOp26
  rw [if_pos (by rfl)]
  refine wp_conv22 _ rfl rfl c1 ?_
  refine hK.out _ _ hS' (fun _ => ?_)
  clear hK K
  simp only [Act.put, List.setIfInBounds_toArray, List.set_cons_zero, List.set_cons_succ]
  exact aw_3 Q hQ u bd s2 s4 HG HD C0 C1 C2 C3 C63 H b1 b2 (w.freeze ⟨b1, (#[.int .u8 97] : Array Value).size, none⟩ 1) hS' (c1.freeze _) g1 (c2.freeze _) g2
set_option maxRecDepth 100000 in
set_option maxHeartbeats 1000000 in
theorem aw_7 (Q : Exit → Act → World → Prop) (hQ : ∀ c a w n v, Q (.panic c) (a.put (some n) v) w → Q (.panic c) a w) (u : World) (bd : Nat) (s2 s4 : Value) (HG : Glob u) (HD : Blk u bd (vals .u8 64 (dg abc)) 24) (C0 : ∀ w', Below u.heap.size u w' → w'.cell? ⟨bd, 0, none⟩ = some (.int .u8 221)) (C1 : ∀ w', Below u.heap.size u w' → w'.cell? ⟨bd, 1, none⟩ = some (.int .u8 175)) (C2 : ∀ w', Below u.heap.size u w' → w'.cell? ⟨bd, 2, none⟩ = some (.int .u8 53)) (C3 : ∀ w', Below u.heap.size u w' → w'.cell? ⟨bd, 3, none⟩ = some (.int .u8 161)) (C63 : ∀ w', Below u.heap.size u w' → w'.cell? ⟨bd, 63, none⟩ = some (.int .u8 159)) (H : ∀ (b1 : Nat) (r : Nat → Nat) (f : Nat → Nat) (n : Nat) (b2 : Nat) (r2 : Nat → Nat) (f2 : Nat → Nat) (n2 : Nat) (w : World), Below u.heap.size u w → Cel w b1 #[.int .u8 97] → u.heap.size ≤ b1 → Rep r f n [97] → Cel w b2 #[.int .u8 98, .int .u8 99] → u.heap.size ≤ b2 → Rep r2 f2 n2 abc → Q .normal { tmps := List.toArray ((.bool true) :: (.pointer (some ⟨bd, 0, none⟩)) :: s2 :: s2 :: s4 :: (.agg (vals .u8 64 (dg abc))) :: (.pointer (some ⟨bd, 0, none⟩)) :: (.int .u8 221) :: (.bool true) :: (.bool true) :: (.pointer (some ⟨bd, 1, none⟩)) :: (.int .u8 175) :: (.bool true) :: (.bool true) :: (.bool true) :: (.pointer (some ⟨bd, 2, none⟩)) :: (.int .u8 53) :: (.bool true) :: (.bool true) :: (.bool true) :: (.pointer (some ⟨bd, 3, none⟩)) :: (.int .u8 161) :: (.bool true) :: (.bool true) :: (.bool true) :: (.pointer (some ⟨bd, 63, none⟩)) :: (.int .u8 159) :: (.bool true) :: (.bool true) :: (.bool true) :: (.agg (stc (fun _ => 0) (fun _ => 0) 0)) :: (.slice (some ⟨b1, 0, none⟩) 1 1) :: (.slice (some ⟨b1, 0, none⟩) 1 1) :: (.agg (stc r f n)) :: (.slice (some ⟨b2, 0, none⟩) 2 2) :: (.slice (some ⟨b2, 0, none⟩) 2 2) :: (.agg (stc r2 f2 n2)) :: (.agg (vals .u8 64 (dg abc))) :: (.agg (vals .u8 64 (dg abc))) :: (.bool true) :: (.bool true) :: []), defers := [] } w) (b1 : Nat) (b2 : Nat) (w : World) (hS : Below u.heap.size u w) (c1 : Cel w b1 #[.int .u8 97]) (g1 : u.heap.size ≤ b1) (c2 : Cel w b2 #[.int .u8 98, .int .u8 99]) (g2 : u.heap.size ≤ b2) :
    wpAnyH Tryd.prog .any awOps Q (fun w' => Below u.heap.size u w') 7 (List.toArray (true :: true :: true :: true :: true :: true :: true :: true :: true :: true :: true :: true :: true :: true :: true :: true :: true :: true :: true :: true :: true :: true :: true :: true :: true :: true :: true :: false :: true :: false :: false :: false :: true :: false :: false :: false :: [])) { tmps := List.toArray ((.bool false) :: (.pointer (some ⟨bd, 0, none⟩)) :: s2 :: s2 :: s4 :: (.agg (vals .u8 64 (dg abc))) :: (.pointer (some ⟨bd, 0, none⟩)) :: (.int .u8 221) :: (.bool true) :: (.bool true) :: (.pointer (some ⟨bd, 1, none⟩)) :: (.int .u8 175) :: (.bool true) :: (.bool true) :: (.bool true) :: (.pointer (some ⟨bd, 2, none⟩)) :: (.int .u8 53) :: (.bool true) :: (.bool true) :: (.bool true) :: (.pointer (some ⟨bd, 3, none⟩)) :: (.int .u8 161) :: (.bool true) :: (.bool true) :: (.bool true) :: (.pointer (some ⟨bd, 63, none⟩)) :: (.int .u8 159) :: (.bool true) :: (.bool true) :: (.bool true) :: (.agg (stc (fun _ => 0) (fun _ => 0) 0)) :: (.slice (some ⟨b1, 0, none⟩) 1 1) :: (.slice (some ⟨b1, 0, none⟩) 1 1) :: undef :: (.slice (some ⟨b2, 0, none⟩) 2 2) :: undef :: undef :: undef :: (.agg (vals .u8 64 (dg abc))) :: undef :: undef :: []), defers := [] } w := by
  refine wpAnyH_ready (rs := [27, 29]) (by kernel_rfl) (by simp) ?_
  refine AllReadyH.cons (o := awOp27) rfl (fun K hK => ?_) ?_
  · skip
    unfold awOp27
    go_simp
    refine (write_at (fun _ => 0) (fun _ => 0) 0 [] [97] (some ⟨b1, 0, none⟩) 1 _ w (by rfl) (HG.low hS) rep_none (by decide) (rds_cel c1 _ a_get) (by decide) (by decide)).mono ?_
    rintro e x ⟨r, f, n, rfl, hR, hb⟩
    dsimp only
    have hS' := keepCall hb rfl hS
    refine hK.out _ _ hS' (fun _ => ?_)
    clear hK K
    simp only [List.setIfInBounds_toArray, List.set_cons_zero, List.set_cons_succ]
    exact aw_4 Q hQ u bd s2 s4 HG HD C0 C1 C2 C3 C63 H b1 r f n b2 x hS' (c1.low hb) g1 (hR) (c2.low hb) g2
  · refine AllReadyH.cons (o := awOp29) rfl (fun K hK => ?_) AllReadyH.nil
    have hS' := Below.freeze hS (a := ⟨b2, (#[.int .u8 98, .int .u8 99] : Array Value).size, none⟩) g2
    unfold awOp29
    rw [if_pos (by rfl)]
    refine wp_conv22 _ rfl rfl c2 ?_
    refine hK.out _ _ hS' (fun _ => ?_)
    clear hK K
    simp only [Act.put, List.setIfInBounds_toArray, List.set_cons_zero, List.set_cons_succ]
    exact aw_3 Q hQ u bd s2 s4 HG HD C0 C1 C2 C3 C63 H b1 b2 (w.freeze ⟨b2, (#[.int .u8 98, .int .u8 99] : Array Value).size, none⟩ 1) hS' (c1.freeze _) g1 (c2.freeze _) g2
set_option maxRecDepth 100000 in
set_option maxHeartbeats 1000000 in
theorem aw_8 (Q : Exit → Act → World → Prop) (hQ : ∀ c a w n v, Q (.panic c) (a.put (some n) v) w → Q (.panic c) a w) (u : World) (bd : Nat) (s2 s4 : Value) (HG : Glob u) (HD : Blk u bd (vals .u8 64 (dg abc)) 24) (C0 : ∀ w', Below u.heap.size u w' → w'.cell? ⟨bd, 0, none⟩ = some (.int .u8 221)) (C1 : ∀ w', Below u.heap.size u w' → w'.cell? ⟨bd, 1, none⟩ = some (.int .u8 175)) (C2 : ∀ w', Below u.heap.size u w' → w'.cell? ⟨bd, 2, none⟩ = some (.int .u8 53)) (C3 : ∀ w', Below u.heap.size u w' → w'.cell? ⟨bd, 3, none⟩ = some (.int .u8 161)) (C63 : ∀ w', Below u.heap.size u w' → w'.cell? ⟨bd, 63, none⟩ = some (.int .u8 159)) (H : ∀ (b1 : Nat) (r : Nat → Nat) (f : Nat → Nat) (n : Nat) (b2 : Nat) (r2 : Nat → Nat) (f2 : Nat → Nat) (n2 : Nat) (w : World), Below u.heap.size u w → Cel w b1 #[.int .u8 97] → u.heap.size ≤ b1 → Rep r f n [97] → Cel w b2 #[.int .u8 98, .int .u8 99] → u.heap.size ≤ b2 → Rep r2 f2 n2 abc → Q .normal { tmps := List.toArray ((.bool true) :: (.pointer (some ⟨bd, 0, none⟩)) :: s2 :: s2 :: s4 :: (.agg (vals .u8 64 (dg abc))) :: (.pointer (some ⟨bd, 0, none⟩)) :: (.int .u8 221) :: (.bool true) :: (.bool true) :: (.pointer (some ⟨bd, 1, none⟩)) :: (.int .u8 175) :: (.bool true) :: (.bool true) :: (.bool true) :: (.pointer (some ⟨bd, 2, none⟩)) :: (.int .u8 53) :: (.bool true) :: (.bool true) :: (.bool true) :: (.pointer (some ⟨bd, 3, none⟩)) :: (.int .u8 161) :: (.bool true) :: (.bool true) :: (.bool true) :: (.pointer (some ⟨bd, 63, none⟩)) :: (.int .u8 159) :: (.bool true) :: (.bool true) :: (.bool true) :: (.agg (stc (fun _ => 0) (fun _ => 0) 0)) :: (.slice (some ⟨b1, 0, none⟩) 1 1) :: (.slice (some ⟨b1, 0, none⟩) 1 1) :: (.agg (stc r f n)) :: (.slice (some ⟨b2, 0, none⟩) 2 2) :: (.slice (some ⟨b2, 0, none⟩) 2 2) :: (.agg (stc r2 f2 n2)) :: (.agg (vals .u8 64 (dg abc))) :: (.agg (vals .u8 64 (dg abc))) :: (.bool true) :: (.bool true) :: []), defers := [] } w) (b1 : Nat) (r : Nat → Nat) (f : Nat → Nat) (n : Nat) (w : World) (hS : Below u.heap.size u w) (c1 : Cel w b1 #[.int .u8 97]) (g1 : u.heap.size ≤ b1) (hR : Rep r f n [97]) :
    wpAnyH Tryd.prog .any awOps Q (fun w' => Below u.heap.size u w') 7 (List.toArray (true :: true :: true :: true :: true :: true :: true :: true :: true :: true :: true :: true :: true :: true :: true :: true :: true :: true :: true :: true :: true :: true :: true :: true :: true :: true :: true :: true :: false :: false :: false :: false :: true :: false :: false :: false :: [])) { tmps := List.toArray ((.bool false) :: (.pointer (some ⟨bd, 0, none⟩)) :: s2 :: s2 :: s4 :: (.agg (vals .u8 64 (dg abc))) :: (.pointer (some ⟨bd, 0, none⟩)) :: (.int .u8 221) :: (.bool true) :: (.bool true) :: (.pointer (some ⟨bd, 1, none⟩)) :: (.int .u8 175) :: (.bool true) :: (.bool true) :: (.bool true) :: (.pointer (some ⟨bd, 2, none⟩)) :: (.int .u8 53) :: (.bool true) :: (.bool true) :: (.bool true) :: (.pointer (some ⟨bd, 3, none⟩)) :: (.int .u8 161) :: (.bool true) :: (.bool true) :: (.bool true) :: (.pointer (some ⟨bd, 63, none⟩)) :: (.int .u8 159) :: (.bool true) :: (.bool true) :: (.bool true) :: (.agg (stc (fun _ => 0) (fun _ => 0) 0)) :: (.slice (some ⟨b1, 0, none⟩) 1 1) :: (.slice (some ⟨b1, 0, none⟩) 1 1) :: (.agg (stc r f n)) :: undef :: undef :: undef :: undef :: (.agg (vals .u8 64 (dg abc))) :: undef :: undef :: []), defers := [] } w := by
  refine wpAnyH_ready (rs := [28]) (by kernel_rfl) (by simp) ?_
  refine AllReadyH.cons (o := awOp28) rfl (fun K hK => ?_) AllReadyH.nil
  have hb := (Below.refl w.heap.size w).alloc (Nat.le_refl _) (.cells (#[.int .u8 98, .int .u8 99]) 5)
  have hS' := keepCall hb rfl hS
  obtain ⟨b2, eb2⟩ : ∃ b, b = w.heap.size := ⟨_, rfl⟩
  have c2 : Cel (w.alloc (.cells (#[.int .u8 98, .int .u8 99]) 5)) b2 #[.int .u8 98, .int .u8 99] := by rw [eb2]; exact (Blk.new w _ _).cel
  have g2 : u.heap.size ≤ b2 := by rw [eb2]; exact hS.size
  unfold awOp28
  go_simp
  rw [← eb2]
  refine hK.out _ _ hS' (fun _ => ?_)
  clear hK K
  simp only [List.setIfInBounds_toArray, List.set_cons_zero, List.set_cons_succ]
  exact aw_4 Q hQ u bd s2 s4 HG HD C0 C1 C2 C3 C63 H b1 r f n b2 (w.alloc (.cells (#[.int .u8 98, .int .u8 99]) 5)) hS' (c1.low hb) g1 hR c2 g2
set_option maxRecDepth 100000 in
set_option maxHeartbeats 1000000 in
theorem aw_9 (Q : Exit → Act → World → Prop) (hQ : ∀ c a w n v, Q (.panic c) (a.put (some n) v) w → Q (.panic c) a w) (u : World) (bd : Nat) (s2 s4 : Value) (HG : Glob u) (HD : Blk u bd (vals .u8 64 (dg abc)) 24) (C0 : ∀ w', Below u.heap.size u w' → w'.cell? ⟨bd, 0, none⟩ = some (.int .u8 221)) (C1 : ∀ w', Below u.heap.size u w' → w'.cell? ⟨bd, 1, none⟩ = some (.int .u8 175)) (C2 : ∀ w', Below u.heap.size u w' → w'.cell? ⟨bd, 2, none⟩ = some (.int .u8 53)) (C3 : ∀ w', Below u.heap.size u w' → w'.cell? ⟨bd, 3, none⟩ = some (.int .u8 161)) (C63 : ∀ w', Below u.heap.size u w' → w'.cell? ⟨bd, 63, none⟩ = some (.int .u8 159)) (H : ∀ (b1 : Nat) (r : Nat → Nat) (f : Nat → Nat) (n : Nat) (b2 : Nat) (r2 : Nat → Nat) (f2 : Nat → Nat) (n2 : Nat) (w : World), Below u.heap.size u w → Cel w b1 #[.int .u8 97] → u.heap.size ≤ b1 → Rep r f n [97] → Cel w b2 #[.int .u8 98, .int .u8 99] → u.heap.size ≤ b2 → Rep r2 f2 n2 abc → Q .normal { tmps := List.toArray ((.bool true) :: (.pointer (some ⟨bd, 0, none⟩)) :: s2 :: s2 :: s4 :: (.agg (vals .u8 64 (dg abc))) :: (.pointer (some ⟨bd, 0, none⟩)) :: (.int .u8 221) :: (.bool true) :: (.bool true) :: (.pointer (some ⟨bd, 1, none⟩)) :: (.int .u8 175) :: (.bool true) :: (.bool true) :: (.bool true) :: (.pointer (some ⟨bd, 2, none⟩)) :: (.int .u8 53) :: (.bool true) :: (.bool true) :: (.bool true) :: (.pointer (some ⟨bd, 3, none⟩)) :: (.int .u8 161) :: (.bool true) :: (.bool true) :: (.bool true) :: (.pointer (some ⟨bd, 63, none⟩)) :: (.int .u8 159) :: (.bool true) :: (.bool true) :: (.bool true) :: (.agg (stc (fun _ => 0) (fun _ => 0) 0)) :: (.slice (some ⟨b1, 0, none⟩) 1 1) :: (.slice (some ⟨b1, 0, none⟩) 1 1) :: (.agg (stc r f n)) :: (.slice (some ⟨b2, 0, none⟩) 2 2) :: (.slice (some ⟨b2, 0, none⟩) 2 2) :: (.agg (stc r2 f2 n2)) :: (.agg (vals .u8 64 (dg abc))) :: (.agg (vals .u8 64 (dg abc))) :: (.bool true) :: (.bool true) :: []), defers := [] } w) (b1 : Nat) (b2 : Nat) (w : World) (hS : Below u.heap.size u w) (c1 : Cel w b1 #[.int .u8 97]) (g1 : u.heap.size ≤ b1) (c2 : Cel w b2 #[.int .u8 98, .int .u8 99]) (g2 : u.heap.size ≤ b2) :
    wpAnyH Tryd.prog .any awOps Q (fun w' => Below u.heap.size u w') 8 (List.toArray (true :: true :: true :: true :: true :: true :: true :: true :: true :: true :: true :: true :: true :: true :: true :: true :: true :: true :: true :: true :: true :: true :: true :: true :: false :: true :: false :: false :: true :: true :: false :: false :: true :: false :: false :: false :: [])) { tmps := List.toArray ((.bool false) :: (.pointer (some ⟨bd, 0, none⟩)) :: s2 :: s2 :: s4 :: (.agg (vals .u8 64 (dg abc))) :: (.pointer (some ⟨bd, 0, none⟩)) :: (.int .u8 221) :: (.bool true) :: (.bool true) :: (.pointer (some ⟨bd, 1, none⟩)) :: (.int .u8 175) :: (.bool true) :: (.bool true) :: (.bool true) :: (.pointer (some ⟨bd, 2, none⟩)) :: (.int .u8 53) :: (.bool true) :: (.bool true) :: (.bool true) :: (.pointer (some ⟨bd, 3, none⟩)) :: (.int .u8 161) :: (.bool true) :: (.bool true) :: (.bool true) :: (.pointer (some ⟨bd, 63, none⟩)) :: (.int .u8 159) :: (.bool true) :: (.bool true) :: (.bool true) :: undef :: (.slice (some ⟨b1, 0, none⟩) 1 1) :: undef :: undef :: (.slice (some ⟨b2, 0, none⟩) 2 2) :: (.slice (some ⟨b2, 0, none⟩) 2 2) :: undef :: undef :: (.agg (vals .u8 64 (dg abc))) :: undef :: undef :: []), defers := [] } w := by
  refine wpAnyH_ready (rs := [24, 26]) (by kernel_rfl) (by simp) ?_
  refine AllReadyH.cons (o := awOp24) rfl (fun K hK => ?_) ?_
  · skip
    unfold awOp24
    go_simp
    refine (new_any w).mono ?_
    rintro e x ⟨rfl, hb⟩
    dsimp only
    have hS' := keepCall hb rfl hS
    refine hK.out _ _ hS' (fun _ => ?_)
    clear hK K
    simp only [List.setIfInBounds_toArray, List.set_cons_zero, List.set_cons_succ]
    exact aw_6 Q hQ u bd s2 s4 HG HD C0 C1 C2 C3 C63 H b1 b2 x hS' (c1.low hb) g1 (c2.low hb) g2
  · refine AllReadyH.cons (o := awOp26) rfl (fun K hK => ?_) AllReadyH.nil
    have hS' := Below.freeze hS (a := ⟨b1, (#[.int .u8 97] : Array Value).size, none⟩) g1
    unfold awOp26
    rw [if_pos (by rfl)]
    refine wp_conv22 _ rfl rfl c1 ?_
    refine hK.out _ _ hS' (fun _ => ?_)
    clear hK K
    simp only [Act.put, List.setIfInBounds_toArray, List.set_cons_zero, List.set_cons_succ]
    exact aw_5 Q hQ u bd s2 s4 HG HD C0 C1 C2 C3 C63 H b1 b2 (w.freeze ⟨b1, (#[.int .u8 97] : Array Value).size, none⟩ 1) hS' (c1.freeze _) g1 (c2.freeze _) g2
set_option maxRecDepth 100000 in
set_option maxHeartbeats 1000000 in
theorem aw_10 (Q : Exit → Act → World → Prop) (hQ : ∀ c a w n v, Q (.panic c) (a.put (some n) v) w → Q (.panic c) a w) (u : World) (bd : Nat) (s2 s4 : Value) (HG : Glob u) (HD : Blk u bd (vals .u8 64 (dg abc)) 24) (C0 : ∀ w', Below u.heap.size u w' → w'.cell? ⟨bd, 0, none⟩ = some (.int .u8 221)) (C1 : ∀ w', Below u.heap.size u w' → w'.cell? ⟨bd, 1, none⟩ = some (.int .u8 175)) (C2 : ∀ w', Below u.heap.size u w' → w'.cell? ⟨bd, 2, none⟩ = some (.int .u8 53)) (C3 : ∀ w', Below u.heap.size u w' → w'.cell? ⟨bd, 3, none⟩ = some (.int .u8 161)) (C63 : ∀ w', Below u.heap.size u w' → w'.cell? ⟨bd, 63, none⟩ = some (.int .u8 159)) (H : ∀ (b1 : Nat) (r : Nat → Nat) (f : Nat → Nat) (n : Nat) (b2 : Nat) (r2 : Nat → Nat) (f2 : Nat → Nat) (n2 : Nat) (w : World), Below u.heap.size u w → Cel w b1 #[.int .u8 97] → u.heap.size ≤ b1 → Rep r f n [97] → Cel w b2 #[.int .u8 98, .int .u8 99] → u.heap.size ≤ b2 → Rep r2 f2 n2 abc → Q .normal { tmps := List.toArray ((.bool true) :: (.pointer (some ⟨bd, 0, none⟩)) :: s2 :: s2 :: s4 :: (.agg (vals .u8 64 (dg abc))) :: (.pointer (some ⟨bd, 0, none⟩)) :: (.int .u8 221) :: (.bool true) :: (.bool true) :: (.pointer (some ⟨bd, 1, none⟩)) :: (.int .u8 175) :: (.bool true) :: (.bool true) :: (.bool true) :: (.pointer (some ⟨bd, 2, none⟩)) :: (.int .u8 53) :: (.bool true) :: (.bool true) :: (.bool true) :: (.pointer (some ⟨bd, 3, none⟩)) :: (.int .u8 161) :: (.bool true) :: (.bool true) :: (.bool true) :: (.pointer (some ⟨bd, 63, none⟩)) :: (.int .u8 159) :: (.bool true) :: (.bool true) :: (.bool true) :: (.agg (stc (fun _ => 0) (fun _ => 0) 0)) :: (.slice (some ⟨b1, 0, none⟩) 1 1) :: (.slice (some ⟨b1, 0, none⟩) 1 1) :: (.agg (stc r f n)) :: (.slice (some ⟨b2, 0, none⟩) 2 2) :: (.slice (some ⟨b2, 0, none⟩) 2 2) :: (.agg (stc r2 f2 n2)) :: (.agg (vals .u8 64 (dg abc))) :: (.agg (vals .u8 64 (dg abc))) :: (.bool true) :: (.bool true) :: []), defers := [] } w) (b2 : Nat) (w : World) (hS : Below u.heap.size u w) (c2 : Cel w b2 #[.int .u8 98, .int .u8 99]) (g2 : u.heap.size ≤ b2) :
    wpAnyH Tryd.prog .any awOps Q (fun w' => Below u.heap.size u w') 8 (List.toArray (true :: true :: true :: true :: true :: true :: true :: true :: true :: true :: true :: true :: true :: true :: true :: true :: true :: true :: true :: true :: true :: true :: true :: true :: true :: false :: false :: false :: true :: true :: false :: false :: true :: false :: false :: false :: [])) { tmps := List.toArray ((.bool false) :: (.pointer (some ⟨bd, 0, none⟩)) :: s2 :: s2 :: s4 :: (.agg (vals .u8 64 (dg abc))) :: (.pointer (some ⟨bd, 0, none⟩)) :: (.int .u8 221) :: (.bool true) :: (.bool true) :: (.pointer (some ⟨bd, 1, none⟩)) :: (.int .u8 175) :: (.bool true) :: (.bool true) :: (.bool true) :: (.pointer (some ⟨bd, 2, none⟩)) :: (.int .u8 53) :: (.bool true) :: (.bool true) :: (.bool true) :: (.pointer (some ⟨bd, 3, none⟩)) :: (.int .u8 161) :: (.bool true) :: (.bool true) :: (.bool true) :: (.pointer (some ⟨bd, 63, none⟩)) :: (.int .u8 159) :: (.bool true) :: (.bool true) :: (.bool true) :: (.agg (stc (fun _ => 0) (fun _ => 0) 0)) :: undef :: undef :: undef :: (.slice (some ⟨b2, 0, none⟩) 2 2) :: (.slice (some ⟨b2, 0, none⟩) 2 2) :: undef :: undef :: (.agg (vals .u8 64 (dg abc))) :: undef :: undef :: []), defers := [] } w := by
  refine wpAnyH_ready (rs := [25]) (by kernel_rfl) (by simp) ?_
  refine AllReadyH.cons (o := awOp25) rfl (fun K hK => ?_) AllReadyH.nil
  have hb := (Below.refl w.heap.size w).alloc (Nat.le_refl _) (.cells (#[.int .u8 97]) 5)
  have hS' := keepCall hb rfl hS
  obtain ⟨b1, eb1⟩ : ∃ b, b = w.heap.size := ⟨_, rfl⟩
  have c1 : Cel (w.alloc (.cells (#[.int .u8 97]) 5)) b1 #[.int .u8 97] := by rw [eb1]; exact (Blk.new w _ _).cel
  have g1 : u.heap.size ≤ b1 := by rw [eb1]; exact hS.size
  unfold awOp25
  go_simp
  rw [← eb1]
  refine hK.out _ _ hS' (fun _ => ?_)
  clear hK K
  simp only [List.setIfInBounds_toArray, List.set_cons_zero, List.set_cons_succ]
  exact aw_6 Q hQ u bd s2 s4 HG HD C0 C1 C2 C3 C63 H b1 b2 (w.alloc (.cells (#[.int .u8 97]) 5)) hS' c1 g1 (c2.low hb) g2
set_option maxRecDepth 100000 in
set_option maxHeartbeats 1000000 in
theorem aw_11 (Q : Exit → Act → World → Prop) (hQ : ∀ c a w n v, Q (.panic c) (a.put (some n) v) w → Q (.panic c) a w) (u : World) (bd : Nat) (s2 s4 : Value) (HG : Glob u) (HD : Blk u bd (vals .u8 64 (dg abc)) 24) (C0 : ∀ w', Below u.heap.size u w' → w'.cell? ⟨bd, 0, none⟩ = some (.int .u8 221)) (C1 : ∀ w', Below u.heap.size u w' → w'.cell? ⟨bd, 1, none⟩ = some (.int .u8 175)) (C2 : ∀ w', Below u.heap.size u w' → w'.cell? ⟨bd, 2, none⟩ = some (.int .u8 53)) (C3 : ∀ w', Below u.heap.size u w' → w'.cell? ⟨bd, 3, none⟩ = some (.int .u8 161)) (C63 : ∀ w', Below u.heap.size u w' → w'.cell? ⟨bd, 63, none⟩ = some (.int .u8 159)) (H : ∀ (b1 : Nat) (r : Nat → Nat) (f : Nat → Nat) (n : Nat) (b2 : Nat) (r2 : Nat → Nat) (f2 : Nat → Nat) (n2 : Nat) (w : World), Below u.heap.size u w → Cel w b1 #[.int .u8 97] → u.heap.size ≤ b1 → Rep r f n [97] → Cel w b2 #[.int .u8 98, .int .u8 99] → u.heap.size ≤ b2 → Rep r2 f2 n2 abc → Q .normal { tmps := List.toArray ((.bool true) :: (.pointer (some ⟨bd, 0, none⟩)) :: s2 :: s2 :: s4 :: (.agg (vals .u8 64 (dg abc))) :: (.pointer (some ⟨bd, 0, none⟩)) :: (.int .u8 221) :: (.bool true) :: (.bool true) :: (.pointer (some ⟨bd, 1, none⟩)) :: (.int .u8 175) :: (.bool true) :: (.bool true) :: (.bool true) :: (.pointer (some ⟨bd, 2, none⟩)) :: (.int .u8 53) :: (.bool true) :: (.bool true) :: (.bool true) :: (.pointer (some ⟨bd, 3, none⟩)) :: (.int .u8 161) :: (.bool true) :: (.bool true) :: (.bool true) :: (.pointer (some ⟨bd, 63, none⟩)) :: (.int .u8 159) :: (.bool true) :: (.bool true) :: (.bool true) :: (.agg (stc (fun _ => 0) (fun _ => 0) 0)) :: (.slice (some ⟨b1, 0, none⟩) 1 1) :: (.slice (some ⟨b1, 0, none⟩) 1 1) :: (.agg (stc r f n)) :: (.slice (some ⟨b2, 0, none⟩) 2 2) :: (.slice (some ⟨b2, 0, none⟩) 2 2) :: (.agg (stc r2 f2 n2)) :: (.agg (vals .u8 64 (dg abc))) :: (.agg (vals .u8 64 (dg abc))) :: (.bool true) :: (.bool true) :: []), defers := [] } w) (b1 : Nat) (b2 : Nat) (w : World) (hS : Below u.heap.size u w) (c1 : Cel w b1 #[.int .u8 97]) (g1 : u.heap.size ≤ b1) (c2 : Cel w b2 #[.int .u8 98, .int .u8 99]) (g2 : u.heap.size ≤ b2) :
    wpAnyH Tryd.prog .any awOps Q (fun w' => Below u.heap.size u w') 8 (List.toArray (true :: true :: true :: true :: true :: true :: true :: true :: true :: true :: true :: true :: true :: true :: true :: true :: true :: true :: true :: true :: true :: true :: true :: true :: false :: true :: true :: false :: true :: false :: false :: false :: true :: false :: false :: false :: [])) { tmps := List.toArray ((.bool false) :: (.pointer (some ⟨bd, 0, none⟩)) :: s2 :: s2 :: s4 :: (.agg (vals .u8 64 (dg abc))) :: (.pointer (some ⟨bd, 0, none⟩)) :: (.int .u8 221) :: (.bool true) :: (.bool true) :: (.pointer (some ⟨bd, 1, none⟩)) :: (.int .u8 175) :: (.bool true) :: (.bool true) :: (.bool true) :: (.pointer (some ⟨bd, 2, none⟩)) :: (.int .u8 53) :: (.bool true) :: (.bool true) :: (.bool true) :: (.pointer (some ⟨bd, 3, none⟩)) :: (.int .u8 161) :: (.bool true) :: (.bool true) :: (.bool true) :: (.pointer (some ⟨bd, 63, none⟩)) :: (.int .u8 159) :: (.bool true) :: (.bool true) :: (.bool true) :: undef :: (.slice (some ⟨b1, 0, none⟩) 1 1) :: (.slice (some ⟨b1, 0, none⟩) 1 1) :: undef :: (.slice (some ⟨b2, 0, none⟩) 2 2) :: undef :: undef :: undef :: (.agg (vals .u8 64 (dg abc))) :: undef :: undef :: []), defers := [] } w := by
  refine wpAnyH_ready (rs := [24, 29]) (by kernel_rfl) (by simp) ?_
  refine AllReadyH.cons (o := awOp24) rfl (fun K hK => ?_) ?_
  · skip
    unfold awOp24
    go_simp
    refine (new_any w).mono ?_
    rintro e x ⟨rfl, hb⟩
    dsimp only
    have hS' := keepCall hb rfl hS
    refine hK.out _ _ hS' (fun _ => ?_)
    clear hK K
    simp only [List.setIfInBounds_toArray, List.set_cons_zero, List.set_cons_succ]
    exact aw_7 Q hQ u bd s2 s4 HG HD C0 C1 C2 C3 C63 H b1 b2 x hS' (c1.low hb) g1 (c2.low hb) g2
  · refine AllReadyH.cons (o := awOp29) rfl (fun K hK => ?_) AllReadyH.nil
    have hS' := Below.freeze hS (a := ⟨b2, (#[.int .u8 98, .int .u8 99] : Array Value).size, none⟩) g2
    unfold awOp29
    rw [if_pos (by rfl)]
    refine wp_conv22 _ rfl rfl c2 ?_
    refine hK.out _ _ hS' (fun _ => ?_)
    clear hK K
    simp only [Act.put, List.setIfInBounds_toArray, List.set_cons_zero, List.set_cons_succ]
    exact aw_5 Q hQ u bd s2 s4 HG HD C0 C1 C2 C3 C63 H b1 b2 (w.freeze ⟨b2, (#[.int .u8 98, .int .u8 99] : Array Value).size, none⟩ 1) hS' (c1.freeze _) g1 (c2.freeze _) g2
set_option maxRecDepth 100000 in
set_option maxHeartbeats 1000000 in
theorem aw_12 (Q : Exit → Act → World → Prop) (hQ : ∀ c a w n v, Q (.panic c) (a.put (some n) v) w → Q (.panic c) a w) (u : World) (bd : Nat) (s2 s4 : Value) (HG : Glob u) (HD : Blk u bd (vals .u8 64 (dg abc)) 24) (C0 : ∀ w', Below u.heap.size u w' → w'.cell? ⟨bd, 0, none⟩ = some (.int .u8 221)) (C1 : ∀ w', Below u.heap.size u w' → w'.cell? ⟨bd, 1, none⟩ = some (.int .u8 175)) (C2 : ∀ w', Below u.heap.size u w' → w'.cell? ⟨bd, 2, none⟩ = some (.int .u8 53)) (C3 : ∀ w', Below u.heap.size u w' → w'.cell? ⟨bd, 3, none⟩ = some (.int .u8 161)) (C63 : ∀ w', Below u.heap.size u w' → w'.cell? ⟨bd, 63, none⟩ = some (.int .u8 159)) (H : ∀ (b1 : Nat) (r : Nat → Nat) (f : Nat → Nat) (n : Nat) (b2 : Nat) (r2 : Nat → Nat) (f2 : Nat → Nat) (n2 : Nat) (w : World), Below u.heap.size u w → Cel w b1 #[.int .u8 97] → u.heap.size ≤ b1 → Rep r f n [97] → Cel w b2 #[.int .u8 98, .int .u8 99] → u.heap.size ≤ b2 → Rep r2 f2 n2 abc → Q .normal { tmps := List.toArray ((.bool true) :: (.pointer (some ⟨bd, 0, none⟩)) :: s2 :: s2 :: s4 :: (.agg (vals .u8 64 (dg abc))) :: (.pointer (some ⟨bd, 0, none⟩)) :: (.int .u8 221) :: (.bool true) :: (.bool true) :: (.pointer (some ⟨bd, 1, none⟩)) :: (.int .u8 175) :: (.bool true) :: (.bool true) :: (.bool true) :: (.pointer (some ⟨bd, 2, none⟩)) :: (.int .u8 53) :: (.bool true) :: (.bool true) :: (.bool true) :: (.pointer (some ⟨bd, 3, none⟩)) :: (.int .u8 161) :: (.bool true) :: (.bool true) :: (.bool true) :: (.pointer (some ⟨bd, 63, none⟩)) :: (.int .u8 159) :: (.bool true) :: (.bool true) :: (.bool true) :: (.agg (stc (fun _ => 0) (fun _ => 0) 0)) :: (.slice (some ⟨b1, 0, none⟩) 1 1) :: (.slice (some ⟨b1, 0, none⟩) 1 1) :: (.agg (stc r f n)) :: (.slice (some ⟨b2, 0, none⟩) 2 2) :: (.slice (some ⟨b2, 0, none⟩) 2 2) :: (.agg (stc r2 f2 n2)) :: (.agg (vals .u8 64 (dg abc))) :: (.agg (vals .u8 64 (dg abc))) :: (.bool true) :: (.bool true) :: []), defers := [] } w) (b1 : Nat) (b2 : Nat) (w : World) (hS : Below u.heap.size u w) (c1 : Cel w b1 #[.int .u8 97]) (g1 : u.heap.size ≤ b1) (c2 : Cel w b2 #[.int .u8 98, .int .u8 99]) (g2 : u.heap.size ≤ b2) :
    wpAnyH Tryd.prog .any awOps Q (fun w' => Below u.heap.size u w') 8 (List.toArray (true :: true :: true :: true :: true :: true :: true :: true :: true :: true :: true :: true :: true :: true :: true :: true :: true :: true :: true :: true :: true :: true :: true :: true :: true :: true :: false :: false :: true :: false :: false :: false :: true :: false :: false :: false :: [])) { tmps := List.toArray ((.bool false) :: (.pointer (some ⟨bd, 0, none⟩)) :: s2 :: s2 :: s4 :: (.agg (vals .u8 64 (dg abc))) :: (.pointer (some ⟨bd, 0, none⟩)) :: (.int .u8 221) :: (.bool true) :: (.bool true) :: (.pointer (some ⟨bd, 1, none⟩)) :: (.int .u8 175) :: (.bool true) :: (.bool true) :: (.bool true) :: (.pointer (some ⟨bd, 2, none⟩)) :: (.int .u8 53) :: (.bool true) :: (.bool true) :: (.bool true) :: (.pointer (some ⟨bd, 3, none⟩)) :: (.int .u8 161) :: (.bool true) :: (.bool true) :: (.bool true) :: (.pointer (some ⟨bd, 63, none⟩)) :: (.int .u8 159) :: (.bool true) :: (.bool true) :: (.bool true) :: (.agg (stc (fun _ => 0) (fun _ => 0) 0)) :: (.slice (some ⟨b1, 0, none⟩) 1 1) :: undef :: undef :: (.slice (some ⟨b2, 0, none⟩) 2 2) :: undef :: undef :: undef :: (.agg (vals .u8 64 (dg abc))) :: undef :: undef :: []), defers := [] } w := by
  refine wpAnyH_ready (rs := [26, 29]) (by kernel_rfl) (by simp) ?_
  refine AllReadyH.cons (o := awOp26) rfl (fun K hK => ?_) ?_
  · skip
    have hS' := Below.freeze hS (a := ⟨b1, (#[.int .u8 97] : Array Value).size, none⟩) g1
    unfold awOp26
    rw [if_pos (by rfl)]
    refine wp_conv22 _ rfl rfl c1 ?_
    refine hK.out _ _ hS' (fun _ => ?_)
    clear hK K
    simp only [Act.put, List.setIfInBounds_toArray, List.set_cons_zero, List.set_cons_succ]
    exact aw_7 Q hQ u bd s2 s4 HG HD C0 C1 C2 C3 C63 H b1 b2 (w.freeze ⟨b1, (#[.int .u8 97] : Array Value).size, none⟩ 1) hS' (c1.freeze _) g1 (c2.freeze _) g2
  · refine AllReadyH.cons (o := awOp29) rfl (fun K hK => ?_) AllReadyH.nil
    have hS' := Below.freeze hS (a := ⟨b2, (#[.int .u8 98, .int .u8 99] : Array Value).size, none⟩) g2
    unfold awOp29
    rw [if_pos (by rfl)]
    refine wp_conv22 _ rfl rfl c2 ?_
    refine hK.out _ _ hS' (fun _ => ?_)
    clear hK K
    simp only [Act.put, List.setIfInBounds_toArray, List.set_cons_zero, List.set_cons_succ]
    exact aw_6 Q hQ u bd s2 s4 HG HD C0 C1 C2 C3 C63 H b1 b2 (w.freeze ⟨b2, (#[.int .u8 98, .int .u8 99] : Array Value).size, none⟩ 1) hS' (c1.freeze _) g1 (c2.freeze _) g2
set_option maxRecDepth 100000 in
set_option maxHeartbeats 1000000 in
theorem aw_13 (Q : Exit → Act → World → Prop) (hQ : ∀ c a w n v, Q (.panic c) (a.put (some n) v) w → Q (.panic c) a w) (u : World) (bd : Nat) (s2 s4 : Value) (HG : Glob u) (HD : Blk u bd (vals .u8 64 (dg abc)) 24) (C0 : ∀ w', Below u.heap.size u w' → w'.cell? ⟨bd, 0, none⟩ = some (.int .u8 221)) (C1 : ∀ w', Below u.heap.size u w' → w'.cell? ⟨bd, 1, none⟩ = some (.int .u8 175)) (C2 : ∀ w', Below u.heap.size u w' → w'.cell? ⟨bd, 2, none⟩ = some (.int .u8 53)) (C3 : ∀ w', Below u.heap.size u w' → w'.cell? ⟨bd, 3, none⟩ = some (.int .u8 161)) (C63 : ∀ w', Below u.heap.size u w' → w'.cell? ⟨bd, 63, none⟩ = some (.int .u8 159)) (H : ∀ (b1 : Nat) (r : Nat → Nat) (f : Nat → Nat) (n : Nat) (b2 : Nat) (r2 : Nat → Nat) (f2 : Nat → Nat) (n2 : Nat) (w : World), Below u.heap.size u w → Cel w b1 #[.int .u8 97] → u.heap.size ≤ b1 → Rep r f n [97] → Cel w b2 #[.int .u8 98, .int .u8 99] → u.heap.size ≤ b2 → Rep r2 f2 n2 abc → Q .normal { tmps := List.toArray ((.bool true) :: (.pointer (some ⟨bd, 0, none⟩)) :: s2 :: s2 :: s4 :: (.agg (vals .u8 64 (dg abc))) :: (.pointer (some ⟨bd, 0, none⟩)) :: (.int .u8 221) :: (.bool true) :: (.bool true) :: (.pointer (some ⟨bd, 1, none⟩)) :: (.int .u8 175) :: (.bool true) :: (.bool true) :: (.bool true) :: (.pointer (some ⟨bd, 2, none⟩)) :: (.int .u8 53) :: (.bool true) :: (.bool true) :: (.bool true) :: (.pointer (some ⟨bd, 3, none⟩)) :: (.int .u8 161) :: (.bool true) :: (.bool true) :: (.bool true) :: (.pointer (some ⟨bd, 63, none⟩)) :: (.int .u8 159) :: (.bool true) :: (.bool true) :: (.bool true) :: (.agg (stc (fun _ => 0) (fun _ => 0) 0)) :: (.slice (some ⟨b1, 0, none⟩) 1 1) :: (.slice (some ⟨b1, 0, none⟩) 1 1) :: (.agg (stc r f n)) :: (.slice (some ⟨b2, 0, none⟩) 2 2) :: (.slice (some ⟨b2, 0, none⟩) 2 2) :: (.agg (stc r2 f2 n2)) :: (.agg (vals .u8 64 (dg abc))) :: (.agg (vals .u8 64 (dg abc))) :: (.bool true) :: (.bool true) :: []), defers := [] } w) (b1 : Nat) (w : World) (hS : Below u.heap.size u w) (c1 : Cel w b1 #[.int .u8 97]) (g1 : u.heap.size ≤ b1) :
    wpAnyH Tryd.prog .any awOps Q (fun w' => Below u.heap.size u w') 8 (List.toArray (true :: true :: true :: true :: true :: true :: true :: true :: true :: true :: true :: true :: true :: true :: true :: true :: true :: true :: true :: true :: true :: true :: true :: true :: true :: true :: true :: false :: false :: false :: false :: false :: true :: false :: false :: false :: [])) { tmps := List.toArray ((.bool false) :: (.pointer (some ⟨bd, 0, none⟩)) :: s2 :: s2 :: s4 :: (.agg (vals .u8 64 (dg abc))) :: (.pointer (some ⟨bd, 0, none⟩)) :: (.int .u8 221) :: (.bool true) :: (.bool true) :: (.pointer (some ⟨bd, 1, none⟩)) :: (.int .u8 175) :: (.bool true) :: (.bool true) :: (.bool true) :: (.pointer (some ⟨bd, 2, none⟩)) :: (.int .u8 53) :: (.bool true) :: (.bool true) :: (.bool true) :: (.pointer (some ⟨bd, 3, none⟩)) :: (.int .u8 161) :: (.bool true) :: (.bool true) :: (.bool true) :: (.pointer (some ⟨bd, 63, none⟩)) :: (.int .u8 159) :: (.bool true) :: (.bool true) :: (.bool true) :: (.agg (stc (fun _ => 0) (fun _ => 0) 0)) :: (.slice (some ⟨b1, 0, none⟩) 1 1) :: (.slice (some ⟨b1, 0, none⟩) 1 1) :: undef :: undef :: undef :: undef :: undef :: (.agg (vals .u8 64 (dg abc))) :: undef :: undef :: []), defers := [] } w := by
  refine wpAnyH_ready (rs := [27, 28]) (by kernel_rfl) (by simp) ?_
  refine AllReadyH.cons (o := awOp27) rfl (fun K hK => ?_) ?_
  · skip
    unfold awOp27
    go_simp
    refine (write_at (fun _ => 0) (fun _ => 0) 0 [] [97] (some ⟨b1, 0, none⟩) 1 _ w (by rfl) (HG.low hS) rep_none (by decide) (rds_cel c1 _ a_get) (by decide) (by decide)).mono ?_
    rintro e x ⟨r, f, n, rfl, hR, hb⟩
    dsimp only
    have hS' := keepCall hb rfl hS
    refine hK.out _ _ hS' (fun _ => ?_)
    clear hK K
    simp only [List.setIfInBounds_toArray, List.set_cons_zero, List.set_cons_succ]
    exact aw_8 Q hQ u bd s2 s4 HG HD C0 C1 C2 C3 C63 H b1 r f n x hS' (c1.low hb) g1 (hR)
  · refine AllReadyH.cons (o := awOp28) rfl (fun K hK => ?_) AllReadyH.nil
    have hb := (Below.refl w.heap.size w).alloc (Nat.le_refl _) (.cells (#[.int .u8 98, .int .u8 99]) 5)
    have hS' := keepCall hb rfl hS
    obtain ⟨b2, eb2⟩ : ∃ b, b = w.heap.size := ⟨_, rfl⟩
    have c2 : Cel (w.alloc (.cells (#[.int .u8 98, .int .u8 99]) 5)) b2 #[.int .u8 98, .int .u8 99] := by rw [eb2]; exact (Blk.new w _ _).cel
    have g2 : u.heap.size ≤ b2 := by rw [eb2]; exact hS.size
    unfold awOp28
    go_simp
    rw [← eb2]
    refine hK.out _ _ hS' (fun _ => ?_)
    clear hK K
    simp only [List.setIfInBounds_toArray, List.set_cons_zero, List.set_cons_succ]
    exact aw_7 Q hQ u bd s2 s4 HG HD C0 C1 C2 C3 C63 H b1 b2 (w.alloc (.cells (#[.int .u8 98, .int .u8 99]) 5)) hS' (c1.low hb) g1 c2 g2
set_option maxRecDepth 100000 in
set_option maxHeartbeats 1000000 in
theorem aw_14 (Q : Exit → Act → World → Prop) (hQ : ∀ c a w n v, Q (.panic c) (a.put (some n) v) w → Q (.panic c) a w) (u : World) (bd : Nat) (s2 s4 : Value) (HG : Glob u) (HD : Blk u bd (vals .u8 64 (dg abc)) 24) (C0 : ∀ w', Below u.heap.size u w' → w'.cell? ⟨bd, 0, none⟩ = some (.int .u8 221)) (C1 : ∀ w', Below u.heap.size u w' → w'.cell? ⟨bd, 1, none⟩ = some (.int .u8 175)) (C2 : ∀ w', Below u.heap.size u w' → w'.cell? ⟨bd, 2, none⟩ = some (.int .u8 53)) (C3 : ∀ w', Below u.heap.size u w' → w'.cell? ⟨bd, 3, none⟩ = some (.int .u8 161)) (C63 : ∀ w', Below u.heap.size u w' → w'.cell? ⟨bd, 63, none⟩ = some (.int .u8 159)) (H : ∀ (b1 : Nat) (r : Nat → Nat) (f : Nat → Nat) (n : Nat) (b2 : Nat) (r2 : Nat → Nat) (f2 : Nat → Nat) (n2 : Nat) (w : World), Below u.heap.size u w → Cel w b1 #[.int .u8 97] → u.heap.size ≤ b1 → Rep r f n [97] → Cel w b2 #[.int .u8 98, .int .u8 99] → u.heap.size ≤ b2 → Rep r2 f2 n2 abc → Q .normal { tmps := List.toArray ((.bool true) :: (.pointer (some ⟨bd, 0, none⟩)) :: s2 :: s2 :: s4 :: (.agg (vals .u8 64 (dg abc))) :: (.pointer (some ⟨bd, 0, none⟩)) :: (.int .u8 221) :: (.bool true) :: (.bool true) :: (.pointer (some ⟨bd, 1, none⟩)) :: (.int .u8 175) :: (.bool true) :: (.bool true) :: (.bool true) :: (.pointer (some ⟨bd, 2, none⟩)) :: (.int .u8 53) :: (.bool true) :: (.bool true) :: (.bool true) :: (.pointer (some ⟨bd, 3, none⟩)) :: (.int .u8 161) :: (.bool true) :: (.bool true) :: (.bool true) :: (.pointer (some ⟨bd, 63, none⟩)) :: (.int .u8 159) :: (.bool true) :: (.bool true) :: (.bool true) :: (.agg (stc (fun _ => 0) (fun _ => 0) 0)) :: (.slice (some ⟨b1, 0, none⟩) 1 1) :: (.slice (some ⟨b1, 0, none⟩) 1 1) :: (.agg (stc r f n)) :: (.slice (some ⟨b2, 0, none⟩) 2 2) :: (.slice (some ⟨b2, 0, none⟩) 2 2) :: (.agg (stc r2 f2 n2)) :: (.agg (vals .u8 64 (dg abc))) :: (.agg (vals .u8 64 (dg abc))) :: (.bool true) :: (.bool true) :: []), defers := [] } w) (b2 : Nat) (w : World) (hS : Below u.heap.size u w) (c2 : Cel w b2 #[.int .u8 98, .int .u8 99]) (g2 : u.heap.size ≤ b2) :
    wpAnyH Tryd.prog .any awOps Q (fun w' => Below u.heap.size u w') 9 (List.toArray (true :: true :: true :: true :: true :: true :: true :: true :: true :: true :: true :: true :: true :: true :: true :: true :: true :: true :: true :: true :: true :: true :: true :: true :: false :: false :: false :: false :: true :: true :: false :: false :: true :: false :: false :: false :: [])) { tmps := List.toArray ((.bool false) :: (.pointer (some ⟨bd, 0, none⟩)) :: s2 :: s2 :: s4 :: (.agg (vals .u8 64 (dg abc))) :: (.pointer (some ⟨bd, 0, none⟩)) :: (.int .u8 221) :: (.bool true) :: (.bool true) :: (.pointer (some ⟨bd, 1, none⟩)) :: (.int .u8 175) :: (.bool true) :: (.bool true) :: (.bool true) :: (.pointer (some ⟨bd, 2, none⟩)) :: (.int .u8 53) :: (.bool true) :: (.bool true) :: (.bool true) :: (.pointer (some ⟨bd, 3, none⟩)) :: (.int .u8 161) :: (.bool true) :: (.bool true) :: (.bool true) :: (.pointer (some ⟨bd, 63, none⟩)) :: (.int .u8 159) :: (.bool true) :: (.bool true) :: (.bool true) :: undef :: undef :: undef :: undef :: (.slice (some ⟨b2, 0, none⟩) 2 2) :: (.slice (some ⟨b2, 0, none⟩) 2 2) :: undef :: undef :: (.agg (vals .u8 64 (dg abc))) :: undef :: undef :: []), defers := [] } w := by
  refine wpAnyH_ready (rs := [24, 25]) (by kernel_rfl) (by simp) ?_
  refine AllReadyH.cons (o := awOp24) rfl (fun K hK => ?_) ?_
  · skip
    unfold awOp24
    go_simp
    refine (new_any w).mono ?_
    rintro e x ⟨rfl, hb⟩
    dsimp only
    have hS' := keepCall hb rfl hS
    refine hK.out _ _ hS' (fun _ => ?_)
    clear hK K
    simp only [List.setIfInBounds_toArray, List.set_cons_zero, List.set_cons_succ]
    exact aw_10 Q hQ u bd s2 s4 HG HD C0 C1 C2 C3 C63 H b2 x hS' (c2.low hb) g2
  · refine AllReadyH.cons (o := awOp25) rfl (fun K hK => ?_) AllReadyH.nil
    have hb := (Below.refl w.heap.size w).alloc (Nat.le_refl _) (.cells (#[.int .u8 97]) 5)
    have hS' := keepCall hb rfl hS
    obtain ⟨b1, eb1⟩ : ∃ b, b = w.heap.size := ⟨_, rfl⟩
    have c1 : Cel (w.alloc (.cells (#[.int .u8 97]) 5)) b1 #[.int .u8 97] := by rw [eb1]; exact (Blk.new w _ _).cel
    have g1 : u.heap.size ≤ b1 := by rw [eb1]; exact hS.size
    unfold awOp25
    go_simp
    rw [← eb1]
    refine hK.out _ _ hS' (fun _ => ?_)
    clear hK K
    simp only [List.setIfInBounds_toArray, List.set_cons_zero, List.set_cons_succ]
    exact aw_9 Q hQ u bd s2 s4 HG HD C0 C1 C2 C3 C63 H b1 b2 (w.alloc (.cells (#[.int .u8 97]) 5)) hS' c1 g1 (c2.low hb) g2
set_option maxRecDepth 100000 in
set_option maxHeartbeats 1000000 in
theorem aw_15 (Q : Exit → Act → World → Prop) (hQ : ∀ c a w n v, Q (.panic c) (a.put (some n) v) w → Q (.panic c) a w) (u : World) (bd : Nat) (s2 s4 : Value) (HG : Glob u) (HD : Blk u bd (vals .u8 64 (dg abc)) 24) (C0 : ∀ w', Below u.heap.size u w' → w'.cell? ⟨bd, 0, none⟩ = some (.int .u8 221)) (C1 : ∀ w', Below u.heap.size u w' → w'.cell? ⟨bd, 1, none⟩ = some (.int .u8 175)) (C2 : ∀ w', Below u.heap.size u w' → w'.cell? ⟨bd, 2, none⟩ = some (.int .u8 53)) (C3 : ∀ w', Below u.heap.size u w' → w'.cell? ⟨bd, 3, none⟩ = some (.int .u8 161)) (C63 : ∀ w', Below u.heap.size u w' → w'.cell? ⟨bd, 63, none⟩ = some (.int .u8 159)) (H : ∀ (b1 : Nat) (r : Nat → Nat) (f : Nat → Nat) (n : Nat) (b2 : Nat) (r2 : Nat → Nat) (f2 : Nat → Nat) (n2 : Nat) (w : World), Below u.heap.size u w → Cel w b1 #[.int .u8 97] → u.heap.size ≤ b1 → Rep r f n [97] → Cel w b2 #[.int .u8 98, .int .u8 99] → u.heap.size ≤ b2 → Rep r2 f2 n2 abc → Q .normal { tmps := List.toArray ((.bool true) :: (.pointer (some ⟨bd, 0, none⟩)) :: s2 :: s2 :: s4 :: (.agg (vals .u8 64 (dg abc))) :: (.pointer (some ⟨bd, 0, none⟩)) :: (.int .u8 221) :: (.bool true) :: (.bool true) :: (.pointer (some ⟨bd, 1, none⟩)) :: (.int .u8 175) :: (.bool true) :: (.bool true) :: (.bool true) :: (.pointer (some ⟨bd, 2, none⟩)) :: (.int .u8 53) :: (.bool true) :: (.bool true) :: (.bool true) :: (.pointer (some ⟨bd, 3, none⟩)) :: (.int .u8 161) :: (.bool true) :: (.bool true) :: (.bool true) :: (.pointer (some ⟨bd, 63, none⟩)) :: (.int .u8 159) :: (.bool true) :: (.bool true) :: (.bool true) :: (.agg (stc (fun _ => 0) (fun _ => 0) 0)) :: (.slice (some ⟨b1, 0, none⟩) 1 1) :: (.slice (some ⟨b1, 0, none⟩) 1 1) :: (.agg (stc r f n)) :: (.slice (some ⟨b2, 0, none⟩) 2 2) :: (.slice (some ⟨b2, 0, none⟩) 2 2) :: (.agg (stc r2 f2 n2)) :: (.agg (vals .u8 64 (dg abc))) :: (.agg (vals .u8 64 (dg abc))) :: (.bool true) :: (.bool true) :: []), defers := [] } w) (b1 : Nat) (b2 : Nat) (w : World) (hS : Below u.heap.size u w) (c1 : Cel w b1 #[.int .u8 97]) (g1 : u.heap.size ≤ b1) (c2 : Cel w b2 #[.int .u8 98, .int .u8 99]) (g2 : u.heap.size ≤ b2) :
    wpAnyH Tryd.prog .any awOps Q (fun w' => Below u.heap.size u w') 9 (List.toArray (true :: true :: true :: true :: true :: true :: true :: true :: true :: true :: true :: true :: true :: true :: true :: true :: true :: true :: true :: true :: true :: true :: true :: true :: false :: true :: false :: false :: true :: false :: false :: false :: true :: false :: false :: false :: [])) { tmps := List.toArray ((.bool false) :: (.pointer (some ⟨bd, 0, none⟩)) :: s2 :: s2 :: s4 :: (.agg (vals .u8 64 (dg abc))) :: (.pointer (some ⟨bd, 0, none⟩)) :: (.int .u8 221) :: (.bool true) :: (.bool true) :: (.pointer (some ⟨bd, 1, none⟩)) :: (.int .u8 175) :: (.bool true) :: (.bool true) :: (.bool true) :: (.pointer (some ⟨bd, 2, none⟩)) :: (.int .u8 53) :: (.bool true) :: (.bool true) :: (.bool true) :: (.pointer (some ⟨bd, 3, none⟩)) :: (.int .u8 161) :: (.bool true) :: (.bool true) :: (.bool true) :: (.pointer (some ⟨bd, 63, none⟩)) :: (.int .u8 159) :: (.bool true) :: (.bool true) :: (.bool true) :: undef :: (.slice (some ⟨b1, 0, none⟩) 1 1) :: undef :: undef :: (.slice (some ⟨b2, 0, none⟩) 2 2) :: undef :: undef :: undef :: (.agg (vals .u8 64 (dg abc))) :: undef :: undef :: []), defers := [] } w := by
  refine wpAnyH_ready (rs := [24, 26, 29]) (by kernel_rfl) (by simp) ?_
  refine AllReadyH.cons (o := awOp24) rfl (fun K hK => ?_) ?_
  · skip
    unfold awOp24
    go_simp
    refine (new_any w).mono ?_
    rintro e x ⟨rfl, hb⟩
    dsimp only
    have hS' := keepCall hb rfl hS
    refine hK.out _ _ hS' (fun _ => ?_)
    clear hK K
    simp only [List.setIfInBounds_toArray, List.set_cons_zero, List.set_cons_succ]
    exact aw_12 Q hQ u bd s2 s4 HG HD C0 C1 C2 C3 C63 H b1 b2 x hS' (c1.low hb) g1 (c2.low hb) g2
  · refine AllReadyH.cons (o := awOp26) rfl (fun K hK => ?_) ?_
    · skip
      have hS' := Below.freeze hS (a := ⟨b1, (#[.int .u8 97] : Array Value).size, none⟩) g1
      unfold awOp26
      rw [if_pos (by rfl)]
      refine wp_conv22 _ rfl rfl c1 ?_
      refine hK.out _ _ hS' (fun _ => ?_)
      clear hK K
      simp only [Act.put, List.setIfInBounds_toArray, List.set_cons_zero, List.set_cons_succ]
      exact aw_11 Q hQ u bd s2 s4 HG HD C0 C1 C2 C3 C63 H b1 b2 (w.freeze ⟨b1, (#[.int .u8 97] : Array Value).size, none⟩ 1) hS' (c1.freeze _) g1 (c2.freeze _) g2
    · refine AllReadyH.cons (o := awOp29) rfl (fun K hK => ?_) AllReadyH.nil
      have hS' := Below.freeze hS (a := ⟨b2, (#[.int .u8 98, .int .u8 99] : Array Value).size, none⟩) g2
      unfold awOp29
      rw [if_pos (by rfl)]
      refine wp_conv22 _ rfl rfl c2 ?_
      refine hK.out _ _ hS' (fun _ => ?_)
      clear hK K
      simp only [Act.put, List.setIfInBounds_toArray, List.set_cons_zero, List.set_cons_succ]
      exact aw_9 Q hQ u bd s2 s4 HG HD C0 C1 C2 C3 C63 H b1 b2 (w.freeze ⟨b2, (#[.int .u8 98, .int .u8 99] : Array Value).size, none⟩ 1) hS' (c1.freeze _) g1 (c2.freeze _) g2
set_option maxRecDepth 100000 in
set_option maxHeartbeats 1000000 in
theorem aw_16 (Q : Exit → Act → World → Prop) (hQ : ∀ c a w n v, Q (.panic c) (a.put (some n) v) w → Q (.panic c) a w) (u : World) (bd : Nat) (s2 s4 : Value) (HG : Glob u) (HD : Blk u bd (vals .u8 64 (dg abc)) 24) (C0 : ∀ w', Below u.heap.size u w' → w'.cell? ⟨bd, 0, none⟩ = some (.int .u8 221)) (C1 : ∀ w', Below u.heap.size u w' → w'.cell? ⟨bd, 1, none⟩ = some (.int .u8 175)) (C2 : ∀ w', Below u.heap.size u w' → w'.cell? ⟨bd, 2, none⟩ = some (.int .u8 53)) (C3 : ∀ w', Below u.heap.size u w' → w'.cell? ⟨bd, 3, none⟩ = some (.int .u8 161)) (C63 : ∀ w', Below u.heap.size u w' → w'.cell? ⟨bd, 63, none⟩ = some (.int .u8 159)) (H : ∀ (b1 : Nat) (r : Nat → Nat) (f : Nat → Nat) (n : Nat) (b2 : Nat) (r2 : Nat → Nat) (f2 : Nat → Nat) (n2 : Nat) (w : World), Below u.heap.size u w → Cel w b1 #[.int .u8 97] → u.heap.size ≤ b1 → Rep r f n [97] → Cel w b2 #[.int .u8 98, .int .u8 99] → u.heap.size ≤ b2 → Rep r2 f2 n2 abc → Q .normal { tmps := List.toArray ((.bool true) :: (.pointer (some ⟨bd, 0, none⟩)) :: s2 :: s2 :: s4 :: (.agg (vals .u8 64 (dg abc))) :: (.pointer (some ⟨bd, 0, none⟩)) :: (.int .u8 221) :: (.bool true) :: (.bool true) :: (.pointer (some ⟨bd, 1, none⟩)) :: (.int .u8 175) :: (.bool true) :: (.bool true) :: (.bool true) :: (.pointer (some ⟨bd, 2, none⟩)) :: (.int .u8 53) :: (.bool true) :: (.bool true) :: (.bool true) :: (.pointer (some ⟨bd, 3, none⟩)) :: (.int .u8 161) :: (.bool true) :: (.bool true) :: (.bool true) :: (.pointer (some ⟨bd, 63, none⟩)) :: (.int .u8 159) :: (.bool true) :: (.bool true) :: (.bool true) :: (.agg (stc (fun _ => 0) (fun _ => 0) 0)) :: (.slice (some ⟨b1, 0, none⟩) 1 1) :: (.slice (some ⟨b1, 0, none⟩) 1 1) :: (.agg (stc r f n)) :: (.slice (some ⟨b2, 0, none⟩) 2 2) :: (.slice (some ⟨b2, 0, none⟩) 2 2) :: (.agg (stc r2 f2 n2)) :: (.agg (vals .u8 64 (dg abc))) :: (.agg (vals .u8 64 (dg abc))) :: (.bool true) :: (.bool true) :: []), defers := [] } w) (b2 : Nat) (w : World) (hS : Below u.heap.size u w) (c2 : Cel w b2 #[.int .u8 98, .int .u8 99]) (g2 : u.heap.size ≤ b2) :
    wpAnyH Tryd.prog .any awOps Q (fun w' => Below u.heap.size u w') 9 (List.toArray (true :: true :: true :: true :: true :: true :: true :: true :: true :: true :: true :: true :: true :: true :: true :: true :: true :: true :: true :: true :: true :: true :: true :: true :: true :: false :: false :: false :: true :: false :: false :: false :: true :: false :: false :: false :: [])) { tmps := List.toArray ((.bool false) :: (.pointer (some ⟨bd, 0, none⟩)) :: s2 :: s2 :: s4 :: (.agg (vals .u8 64 (dg abc))) :: (.pointer (some ⟨bd, 0, none⟩)) :: (.int .u8 221) :: (.bool true) :: (.bool true) :: (.pointer (some ⟨bd, 1, none⟩)) :: (.int .u8 175) :: (.bool true) :: (.bool true) :: (.bool true) :: (.pointer (some ⟨bd, 2, none⟩)) :: (.int .u8 53) :: (.bool true) :: (.bool true) :: (.bool true) :: (.pointer (some ⟨bd, 3, none⟩)) :: (.int .u8 161) :: (.bool true) :: (.bool true) :: (.bool true) :: (.pointer (some ⟨bd, 63, none⟩)) :: (.int .u8 159) :: (.bool true) :: (.bool true) :: (.bool true) :: (.agg (stc (fun _ => 0) (fun _ => 0) 0)) :: undef :: undef :: undef :: (.slice (some ⟨b2, 0, none⟩) 2 2) :: undef :: undef :: undef :: (.agg (vals .u8 64 (dg abc))) :: undef :: undef :: []), defers := [] } w := by
  refine wpAnyH_ready (rs := [25, 29]) (by kernel_rfl) (by simp) ?_
  refine AllReadyH.cons (o := awOp25) rfl (fun K hK => ?_) ?_
  · skip
    have hb := (Below.refl w.heap.size w).alloc (Nat.le_refl _) (.cells (#[.int .u8 97]) 5)
    have hS' := keepCall hb rfl hS
    obtain ⟨b1, eb1⟩ : ∃ b, b = w.heap.size := ⟨_, rfl⟩
    have c1 : Cel (w.alloc (.cells (#[.int .u8 97]) 5)) b1 #[.int .u8 97] := by rw [eb1]; exact (Blk.new w _ _).cel
    have g1 : u.heap.size ≤ b1 := by rw [eb1]; exact hS.size
    unfold awOp25
    go_simp
    rw [← eb1]
    refine hK.out _ _ hS' (fun _ => ?_)
    clear hK K
    simp only [List.setIfInBounds_toArray, List.set_cons_zero, List.set_cons_succ]
    exact aw_12 Q hQ u bd s2 s4 HG HD C0 C1 C2 C3 C63 H b1 b2 (w.alloc (.cells (#[.int .u8 97]) 5)) hS' c1 g1 (c2.low hb) g2
  · refine AllReadyH.cons (o := awOp29) rfl (fun K hK => ?_) AllReadyH.nil
    have hS' := Below.freeze hS (a := ⟨b2, (#[.int .u8 98, .int .u8 99] : Array Value).size, none⟩) g2
    unfold awOp29
    rw [if_pos (by rfl)]
    refine wp_conv22 _ rfl rfl c2 ?_
    refine hK.out _ _ hS' (fun _ => ?_)
    clear hK K
    simp only [Act.put, List.setIfInBounds_toArray, List.set_cons_zero, List.set_cons_succ]
    exact aw_10 Q hQ u bd s2 s4 HG HD C0 C1 C2 C3 C63 H b2 (w.freeze ⟨b2, (#[.int .u8 98, .int .u8 99] : Array Value).size, none⟩ 1) hS' (c2.freeze _) g2
set_option maxRecDepth 100000 in
set_option maxHeartbeats 1000000 in
theorem aw_17 (Q : Exit → Act → World → Prop) (hQ : ∀ c a w n v, Q (.panic c) (a.put (some n) v) w → Q (.panic c) a w) (u : World) (bd : Nat) (s2 s4 : Value) (HG : Glob u) (HD : Blk u bd (vals .u8 64 (dg abc)) 24) (C0 : ∀ w', Below u.heap.size u w' → w'.cell? ⟨bd, 0, none⟩ = some (.int .u8 221)) (C1 : ∀ w', Below u.heap.size u w' → w'.cell? ⟨bd, 1, none⟩ = some (.int .u8 175)) (C2 : ∀ w', Below u.heap.size u w' → w'.cell? ⟨bd, 2, none⟩ = some (.int .u8 53)) (C3 : ∀ w', Below u.heap.size u w' → w'.cell? ⟨bd, 3, none⟩ = some (.int .u8 161)) (C63 : ∀ w', Below u.heap.size u w' → w'.cell? ⟨bd, 63, none⟩ = some (.int .u8 159)) (H : ∀ (b1 : Nat) (r : Nat → Nat) (f : Nat → Nat) (n : Nat) (b2 : Nat) (r2 : Nat → Nat) (f2 : Nat → Nat) (n2 : Nat) (w : World), Below u.heap.size u w → Cel w b1 #[.int .u8 97] → u.heap.size ≤ b1 → Rep r f n [97] → Cel w b2 #[.int .u8 98, .int .u8 99] → u.heap.size ≤ b2 → Rep r2 f2 n2 abc → Q .normal { tmps := List.toArray ((.bool true) :: (.pointer (some ⟨bd, 0, none⟩)) :: s2 :: s2 :: s4 :: (.agg (vals .u8 64 (dg abc))) :: (.pointer (some ⟨bd, 0, none⟩)) :: (.int .u8 221) :: (.bool true) :: (.bool true) :: (.pointer (some ⟨bd, 1, none⟩)) :: (.int .u8 175) :: (.bool true) :: (.bool true) :: (.bool true) :: (.pointer (some ⟨bd, 2, none⟩)) :: (.int .u8 53) :: (.bool true) :: (.bool true) :: (.bool true) :: (.pointer (some ⟨bd, 3, none⟩)) :: (.int .u8 161) :: (.bool true) :: (.bool true) :: (.bool true) :: (.pointer (some ⟨bd, 63, none⟩)) :: (.int .u8 159) :: (.bool true) :: (.bool true) :: (.bool true) :: (.agg (stc (fun _ => 0) (fun _ => 0) 0)) :: (.slice (some ⟨b1, 0, none⟩) 1 1) :: (.slice (some ⟨b1, 0, none⟩) 1 1) :: (.agg (stc r f n)) :: (.slice (some ⟨b2, 0, none⟩) 2 2) :: (.slice (some ⟨b2, 0, none⟩) 2 2) :: (.agg (stc r2 f2 n2)) :: (.agg (vals .u8 64 (dg abc))) :: (.agg (vals .u8 64 (dg abc))) :: (.bool true) :: (.bool true) :: []), defers := [] } w) (b1 : Nat) (w : World) (hS : Below u.heap.size u w) (c1 : Cel w b1 #[.int .u8 97]) (g1 : u.heap.size ≤ b1) :
    wpAnyH Tryd.prog .any awOps Q (fun w' => Below u.heap.size u w') 9 (List.toArray (true :: true :: true :: true :: true :: true :: true :: true :: true :: true :: true :: true :: true :: true :: true :: true :: true :: true :: true :: true :: true :: true :: true :: true :: false :: true :: true :: false :: false :: false :: false :: false :: true :: false :: false :: false :: [])) { tmps := List.toArray ((.bool false) :: (.pointer (some ⟨bd, 0, none⟩)) :: s2 :: s2 :: s4 :: (.agg (vals .u8 64 (dg abc))) :: (.pointer (some ⟨bd, 0, none⟩)) :: (.int .u8 221) :: (.bool true) :: (.bool true) :: (.pointer (some ⟨bd, 1, none⟩)) :: (.int .u8 175) :: (.bool true) :: (.bool true) :: (.bool true) :: (.pointer (some ⟨bd, 2, none⟩)) :: (.int .u8 53) :: (.bool true) :: (.bool true) :: (.bool true) :: (.pointer (some ⟨bd, 3, none⟩)) :: (.int .u8 161) :: (.bool true) :: (.bool true) :: (.bool true) :: (.pointer (some ⟨bd, 63, none⟩)) :: (.int .u8 159) :: (.bool true) :: (.bool true) :: (.bool true) :: undef :: (.slice (some ⟨b1, 0, none⟩) 1 1) :: (.slice (some ⟨b1, 0, none⟩) 1 1) :: undef :: undef :: undef :: undef :: undef :: (.agg (vals .u8 64 (dg abc))) :: undef :: undef :: []), defers := [] } w := by
  refine wpAnyH_ready (rs := [24, 28]) (by kernel_rfl) (by simp) ?_
  refine AllReadyH.cons (o := awOp24) rfl (fun K hK => ?_) ?_
  · skip
    unfold awOp24
    go_simp
    refine (new_any w).mono ?_
    rintro e x ⟨rfl, hb⟩
    dsimp only
    have hS' := keepCall hb rfl hS
    refine hK.out _ _ hS' (fun _ => ?_)
    clear hK K
    simp only [List.setIfInBounds_toArray, List.set_cons_zero, List.set_cons_succ]
    exact aw_13 Q hQ u bd s2 s4 HG HD C0 C1 C2 C3 C63 H b1 x hS' (c1.low hb) g1
  · refine AllReadyH.cons (o := awOp28) rfl (fun K hK => ?_) AllReadyH.nil
    have hb := (Below.refl w.heap.size w).alloc (Nat.le_refl _) (.cells (#[.int .u8 98, .int .u8 99]) 5)
    have hS' := keepCall hb rfl hS
    obtain ⟨b2, eb2⟩ : ∃ b, b = w.heap.size := ⟨_, rfl⟩
    have c2 : Cel (w.alloc (.cells (#[.int .u8 98, .int .u8 99]) 5)) b2 #[.int .u8 98, .int .u8 99] := by rw [eb2]; exact (Blk.new w _ _).cel
    have g2 : u.heap.size ≤ b2 := by rw [eb2]; exact hS.size
    unfold awOp28
    go_simp
    rw [← eb2]
    refine hK.out _ _ hS' (fun _ => ?_)
    clear hK K
    simp only [List.setIfInBounds_toArray, List.set_cons_zero, List.set_cons_succ]
    exact aw_11 Q hQ u bd s2 s4 HG HD C0 C1 C2 C3 C63 H b1 b2 (w.alloc (.cells (#[.int .u8 98, .int .u8 99]) 5)) hS' (c1.low hb) g1 c2 g2
set_option maxRecDepth 100000 in
set_option maxHeartbeats 1000000 in
theorem aw_18 (Q : Exit → Act → World → Prop) (hQ : ∀ c a w n v, Q (.panic c) (a.put (some n) v) w → Q (.panic c) a w) (u : World) (bd : Nat) (s2 s4 : Value) (HG : Glob u) (HD : Blk u bd (vals .u8 64 (dg abc)) 24) (C0 : ∀ w', Below u.heap.size u w' → w'.cell? ⟨bd, 0, none⟩ = some (.int .u8 221)) (C1 : ∀ w', Below u.heap.size u w' → w'.cell? ⟨bd, 1, none⟩ = some (.int .u8 175)) (C2 : ∀ w', Below u.heap.size u w' → w'.cell? ⟨bd, 2, none⟩ = some (.int .u8 53)) (C3 : ∀ w', Below u.heap.size u w' → w'.cell? ⟨bd, 3, none⟩ = some (.int .u8 161)) (C63 : ∀ w', Below u.heap.size u w' → w'.cell? ⟨bd, 63, none⟩ = some (.int .u8 159)) (H : ∀ (b1 : Nat) (r : Nat → Nat) (f : Nat → Nat) (n : Nat) (b2 : Nat) (r2 : Nat → Nat) (f2 : Nat → Nat) (n2 : Nat) (w : World), Below u.heap.size u w → Cel w b1 #[.int .u8 97] → u.heap.size ≤ b1 → Rep r f n [97] → Cel w b2 #[.int .u8 98, .int .u8 99] → u.heap.size ≤ b2 → Rep r2 f2 n2 abc → Q .normal { tmps := List.toArray ((.bool true) :: (.pointer (some ⟨bd, 0, none⟩)) :: s2 :: s2 :: s4 :: (.agg (vals .u8 64 (dg abc))) :: (.pointer (some ⟨bd, 0, none⟩)) :: (.int .u8 221) :: (.bool true) :: (.bool true) :: (.pointer (some ⟨bd, 1, none⟩)) :: (.int .u8 175) :: (.bool true) :: (.bool true) :: (.bool true) :: (.pointer (some ⟨bd, 2, none⟩)) :: (.int .u8 53) :: (.bool true) :: (.bool true) :: (.bool true) :: (.pointer (some ⟨bd, 3, none⟩)) :: (.int .u8 161) :: (.bool true) :: (.bool true) :: (.bool true) :: (.pointer (some ⟨bd, 63, none⟩)) :: (.int .u8 159) :: (.bool true) :: (.bool true) :: (.bool true) :: (.agg (stc (fun _ => 0) (fun _ => 0) 0)) :: (.slice (some ⟨b1, 0, none⟩) 1 1) :: (.slice (some ⟨b1, 0, none⟩) 1 1) :: (.agg (stc r f n)) :: (.slice (some ⟨b2, 0, none⟩) 2 2) :: (.slice (some ⟨b2, 0, none⟩) 2 2) :: (.agg (stc r2 f2 n2)) :: (.agg (vals .u8 64 (dg abc))) :: (.agg (vals .u8 64 (dg abc))) :: (.bool true) :: (.bool true) :: []), defers := [] } w) (b1 : Nat) (w : World) (hS : Below u.heap.size u w) (c1 : Cel w b1 #[.int .u8 97]) (g1 : u.heap.size ≤ b1) :
    wpAnyH Tryd.prog .any awOps Q (fun w' => Below u.heap.size u w') 9 (List.toArray (true :: true :: true :: true :: true :: true :: true :: true :: true :: true :: true :: true :: true :: true :: true :: true :: true :: true :: true :: true :: true :: true :: true :: true :: true :: true :: false :: false :: false :: false :: false :: false :: true :: false :: false :: false :: [])) { tmps := List.toArray ((.bool false) :: (.pointer (some ⟨bd, 0, none⟩)) :: s2 :: s2 :: s4 :: (.agg (vals .u8 64 (dg abc))) :: (.pointer (some ⟨bd, 0, none⟩)) :: (.int .u8 221) :: (.bool true) :: (.bool true) :: (.pointer (some ⟨bd, 1, none⟩)) :: (.int .u8 175) :: (.bool true) :: (.bool true) :: (.bool true) :: (.pointer (some ⟨bd, 2, none⟩)) :: (.int .u8 53) :: (.bool true) :: (.bool true) :: (.bool true) :: (.pointer (some ⟨bd, 3, none⟩)) :: (.int .u8 161) :: (.bool true) :: (.bool true) :: (.bool true) :: (.pointer (some ⟨bd, 63, none⟩)) :: (.int .u8 159) :: (.bool true) :: (.bool true) :: (.bool true) :: (.agg (stc (fun _ => 0) (fun _ => 0) 0)) :: (.slice (some ⟨b1, 0, none⟩) 1 1) :: undef :: undef :: undef :: undef :: undef :: undef :: (.agg (vals .u8 64 (dg abc))) :: undef :: undef :: []), defers := [] } w := by
  refine wpAnyH_ready (rs := [26, 28]) (by kernel_rfl) (by simp) ?_
  refine AllReadyH.cons (o := awOp26) rfl (fun K hK => ?_) ?_
  · skip
    have hS' := Below.freeze hS (a := ⟨b1, (#[.int .u8 97] : Array Value).size, none⟩) g1
    unfold awOp26
    rw [if_pos (by rfl)]
    refine wp_conv22 _ rfl rfl c1 ?_
    refine hK.out _ _ hS' (fun _ => ?_)
    clear hK K
    simp only [Act.put, List.setIfInBounds_toArray, List.set_cons_zero, List.set_cons_succ]
    exact aw_13 Q hQ u bd s2 s4 HG HD C0 C1 C2 C3 C63 H b1 (w.freeze ⟨b1, (#[.int .u8 97] : Array Value).size, none⟩ 1) hS' (c1.freeze _) g1
  · refine AllReadyH.cons (o := awOp28) rfl (fun K hK => ?_) AllReadyH.nil
    have hb := (Below.refl w.heap.size w).alloc (Nat.le_refl _) (.cells (#[.int .u8 98, .int .u8 99]) 5)
    have hS' := keepCall hb rfl hS
    obtain ⟨b2, eb2⟩ : ∃ b, b = w.heap.size := ⟨_, rfl⟩
    have c2 : Cel (w.alloc (.cells (#[.int .u8 98, .int .u8 99]) 5)) b2 #[.int .u8 98, .int .u8 99] := by rw [eb2]; exact (Blk.new w _ _).cel
    have g2 : u.heap.size ≤ b2 := by rw [eb2]; exact hS.size
    unfold awOp28
    go_simp
    rw [← eb2]
    refine hK.out _ _ hS' (fun _ => ?_)
    clear hK K
    simp only [List.setIfInBounds_toArray, List.set_cons_zero, List.set_cons_succ]
    exact aw_12 Q hQ u bd s2 s4 HG HD C0 C1 C2 C3 C63 H b1 b2 (w.alloc (.cells (#[.int .u8 98, .int .u8 99]) 5)) hS' (c1.low hb) g1 c2 g2
set_option maxRecDepth 100000 in
set_option maxHeartbeats 1000000 in
theorem aw_19 (Q : Exit → Act → World → Prop) (hQ : ∀ c a w n v, Q (.panic c) (a.put (some n) v) w → Q (.panic c) a w) (u : World) (bd : Nat) (s2 s4 : Value) (HG : Glob u) (HD : Blk u bd (vals .u8 64 (dg abc)) 24) (C0 : ∀ w', Below u.heap.size u w' → w'.cell? ⟨bd, 0, none⟩ = some (.int .u8 221)) (C1 : ∀ w', Below u.heap.size u w' → w'.cell? ⟨bd, 1, none⟩ = some (.int .u8 175)) (C2 : ∀ w', Below u.heap.size u w' → w'.cell? ⟨bd, 2, none⟩ = some (.int .u8 53)) (C3 : ∀ w', Below u.heap.size u w' → w'.cell? ⟨bd, 3, none⟩ = some (.int .u8 161)) (C63 : ∀ w', Below u.heap.size u w' → w'.cell? ⟨bd, 63, none⟩ = some (.int .u8 159)) (H : ∀ (b1 : Nat) (r : Nat → Nat) (f : Nat → Nat) (n : Nat) (b2 : Nat) (r2 : Nat → Nat) (f2 : Nat → Nat) (n2 : Nat) (w : World), Below u.heap.size u w → Cel w b1 #[.int .u8 97] → u.heap.size ≤ b1 → Rep r f n [97] → Cel w b2 #[.int .u8 98, .int .u8 99] → u.heap.size ≤ b2 → Rep r2 f2 n2 abc → Q .normal { tmps := List.toArray ((.bool true) :: (.pointer (some ⟨bd, 0, none⟩)) :: s2 :: s2 :: s4 :: (.agg (vals .u8 64 (dg abc))) :: (.pointer (some ⟨bd, 0, none⟩)) :: (.int .u8 221) :: (.bool true) :: (.bool true) :: (.pointer (some ⟨bd, 1, none⟩)) :: (.int .u8 175) :: (.bool true) :: (.bool true) :: (.bool true) :: (.pointer (some ⟨bd, 2, none⟩)) :: (.int .u8 53) :: (.bool true) :: (.bool true) :: (.bool true) :: (.pointer (some ⟨bd, 3, none⟩)) :: (.int .u8 161) :: (.bool true) :: (.bool true) :: (.bool true) :: (.pointer (some ⟨bd, 63, none⟩)) :: (.int .u8 159) :: (.bool true) :: (.bool true) :: (.bool true) :: (.agg (stc (fun _ => 0) (fun _ => 0) 0)) :: (.slice (some ⟨b1, 0, none⟩) 1 1) :: (.slice (some ⟨b1, 0, none⟩) 1 1) :: (.agg (stc r f n)) :: (.slice (some ⟨b2, 0, none⟩) 2 2) :: (.slice (some ⟨b2, 0, none⟩) 2 2) :: (.agg (stc r2 f2 n2)) :: (.agg (vals .u8 64 (dg abc))) :: (.agg (vals .u8 64 (dg abc))) :: (.bool true) :: (.bool true) :: []), defers := [] } w) (b2 : Nat) (w : World) (hS : Below u.heap.size u w) (c2 : Cel w b2 #[.int .u8 98, .int .u8 99]) (g2 : u.heap.size ≤ b2) :
    wpAnyH Tryd.prog .any awOps Q (fun w' => Below u.heap.size u w') 10 (List.toArray (true :: true :: true :: true :: true :: true :: true :: true :: true :: true :: true :: true :: true :: true :: true :: true :: true :: true :: true :: true :: true :: true :: true :: true :: false :: false :: false :: false :: true :: false :: false :: false :: true :: false :: false :: false :: [])) { tmps := List.toArray ((.bool false) :: (.pointer (some ⟨bd, 0, none⟩)) :: s2 :: s2 :: s4 :: (.agg (vals .u8 64 (dg abc))) :: (.pointer (some ⟨bd, 0, none⟩)) :: (.int .u8 221) :: (.bool true) :: (.bool true) :: (.pointer (some ⟨bd, 1, none⟩)) :: (.int .u8 175) :: (.bool true) :: (.bool true) :: (.bool true) :: (.pointer (some ⟨bd, 2, none⟩)) :: (.int .u8 53) :: (.bool true) :: (.bool true) :: (.bool true) :: (.pointer (some ⟨bd, 3, none⟩)) :: (.int .u8 161) :: (.bool true) :: (.bool true) :: (.bool true) :: (.pointer (some ⟨bd, 63, none⟩)) :: (.int .u8 159) :: (.bool true) :: (.bool true) :: (.bool true) :: undef :: undef :: undef :: undef :: (.slice (some ⟨b2, 0, none⟩) 2 2) :: undef :: undef :: undef :: (.agg (vals .u8 64 (dg abc))) :: undef :: undef :: []), defers := [] } w := by
  refine wpAnyH_ready (rs := [24, 25, 29]) (by kernel_rfl) (by simp) ?_
  refine AllReadyH.cons (o := awOp24) rfl (fun K hK => ?_) ?_
  · skip
    unfold awOp24
    go_simp
    refine (new_any w).mono ?_
    rintro e x ⟨rfl, hb⟩
    dsimp only
    have hS' := keepCall hb rfl hS
    refine hK.out _ _ hS' (fun _ => ?_)
    clear hK K
    simp only [List.setIfInBounds_toArray, List.set_cons_zero, List.set_cons_succ]
    exact aw_16 Q hQ u bd s2 s4 HG HD C0 C1 C2 C3 C63 H b2 x hS' (c2.low hb) g2
  · refine AllReadyH.cons (o := awOp25) rfl (fun K hK => ?_) ?_
    · skip
      have hb := (Below.refl w.heap.size w).alloc (Nat.le_refl _) (.cells (#[.int .u8 97]) 5)
      have hS' := keepCall hb rfl hS
      obtain ⟨b1, eb1⟩ : ∃ b, b = w.heap.size := ⟨_, rfl⟩
      have c1 : Cel (w.alloc (.cells (#[.int .u8 97]) 5)) b1 #[.int .u8 97] := by rw [eb1]; exact (Blk.new w _ _).cel
      have g1 : u.heap.size ≤ b1 := by rw [eb1]; exact hS.size
      unfold awOp25
      go_simp
      rw [← eb1]
      refine hK.out _ _ hS' (fun _ => ?_)
      clear hK K
      simp only [List.setIfInBounds_toArray, List.set_cons_zero, List.set_cons_succ]
      exact aw_15 Q hQ u bd s2 s4 HG HD C0 C1 C2 C3 C63 H b1 b2 (w.alloc (.cells (#[.int .u8 97]) 5)) hS' c1 g1 (c2.low hb) g2
    · refine AllReadyH.cons (o := awOp29) rfl (fun K hK => ?_) AllReadyH.nil
      have hS' := Below.freeze hS (a := ⟨b2, (#[.int .u8 98, .int .u8 99] : Array Value).size, none⟩) g2
      unfold awOp29
      rw [if_pos (by rfl)]
      refine wp_conv22 _ rfl rfl c2 ?_
      refine hK.out _ _ hS' (fun _ => ?_)
      clear hK K
      simp only [Act.put, List.setIfInBounds_toArray, List.set_cons_zero, List.set_cons_succ]
      exact aw_14 Q hQ u bd s2 s4 HG HD C0 C1 C2 C3 C63 H b2 (w.freeze ⟨b2, (#[.int .u8 98, .int .u8 99] : Array Value).size, none⟩ 1) hS' (c2.freeze _) g2
set_option maxRecDepth 100000 in
set_option maxHeartbeats 1000000 in
theorem aw_20 (Q : Exit → Act → World → Prop) (hQ : ∀ c a w n v, Q (.panic c) (a.put (some n) v) w → Q (.panic c) a w) (u : World) (bd : Nat) (s2 s4 : Value) (HG : Glob u) (HD : Blk u bd (vals .u8 64 (dg abc)) 24) (C0 : ∀ w', Below u.heap.size u w' → w'.cell? ⟨bd, 0, none⟩ = some (.int .u8 221)) (C1 : ∀ w', Below u.heap.size u w' → w'.cell? ⟨bd, 1, none⟩ = some (.int .u8 175)) (C2 : ∀ w', Below u.heap.size u w' → w'.cell? ⟨bd, 2, none⟩ = some (.int .u8 53)) (C3 : ∀ w', Below u.heap.size u w' → w'.cell? ⟨bd, 3, none⟩ = some (.int .u8 161)) (C63 : ∀ w', Below u.heap.size u w' → w'.cell? ⟨bd, 63, none⟩ = some (.int .u8 159)) (H : ∀ (b1 : Nat) (r : Nat → Nat) (f : Nat → Nat) (n : Nat) (b2 : Nat) (r2 : Nat → Nat) (f2 : Nat → Nat) (n2 : Nat) (w : World), Below u.heap.size u w → Cel w b1 #[.int .u8 97] → u.heap.size ≤ b1 → Rep r f n [97] → Cel w b2 #[.int .u8 98, .int .u8 99] → u.heap.size ≤ b2 → Rep r2 f2 n2 abc → Q .normal { tmps := List.toArray ((.bool true) :: (.pointer (some ⟨bd, 0, none⟩)) :: s2 :: s2 :: s4 :: (.agg (vals .u8 64 (dg abc))) :: (.pointer (some ⟨bd, 0, none⟩)) :: (.int .u8 221) :: (.bool true) :: (.bool true) :: (.pointer (some ⟨bd, 1, none⟩)) :: (.int .u8 175) :: (.bool true) :: (.bool true) :: (.bool true) :: (.pointer (some ⟨bd, 2, none⟩)) :: (.int .u8 53) :: (.bool true) :: (.bool true) :: (.bool true) :: (.pointer (some ⟨bd, 3, none⟩)) :: (.int .u8 161) :: (.bool true) :: (.bool true) :: (.bool true) :: (.pointer (some ⟨bd, 63, none⟩)) :: (.int .u8 159) :: (.bool true) :: (.bool true) :: (.bool true) :: (.agg (stc (fun _ => 0) (fun _ => 0) 0)) :: (.slice (some ⟨b1, 0, none⟩) 1 1) :: (.slice (some ⟨b1, 0, none⟩) 1 1) :: (.agg (stc r f n)) :: (.slice (some ⟨b2, 0, none⟩) 2 2) :: (.slice (some ⟨b2, 0, none⟩) 2 2) :: (.agg (stc r2 f2 n2)) :: (.agg (vals .u8 64 (dg abc))) :: (.agg (vals .u8 64 (dg abc))) :: (.bool true) :: (.bool true) :: []), defers := [] } w) (b1 : Nat) (w : World) (hS : Below u.heap.size u w) (c1 : Cel w b1 #[.int .u8 97]) (g1 : u.heap.size ≤ b1) :
    wpAnyH Tryd.prog .any awOps Q (fun w' => Below u.heap.size u w') 10 (List.toArray (true :: true :: true :: true :: true :: true :: true :: true :: true :: true :: true :: true :: true :: true :: true :: true :: true :: true :: true :: true :: true :: true :: true :: true :: false :: true :: false :: false :: false :: false :: false :: false :: true :: false :: false :: false :: [])) { tmps := List.toArray ((.bool false) :: (.pointer (some ⟨bd, 0, none⟩)) :: s2 :: s2 :: s4 :: (.agg (vals .u8 64 (dg abc))) :: (.pointer (some ⟨bd, 0, none⟩)) :: (.int .u8 221) :: (.bool true) :: (.bool true) :: (.pointer (some ⟨bd, 1, none⟩)) :: (.int .u8 175) :: (.bool true) :: (.bool true) :: (.bool true) :: (.pointer (some ⟨bd, 2, none⟩)) :: (.int .u8 53) :: (.bool true) :: (.bool true) :: (.bool true) :: (.pointer (some ⟨bd, 3, none⟩)) :: (.int .u8 161) :: (.bool true) :: (.bool true) :: (.bool true) :: (.pointer (some ⟨bd, 63, none⟩)) :: (.int .u8 159) :: (.bool true) :: (.bool true) :: (.bool true) :: undef :: (.slice (some ⟨b1, 0, none⟩) 1 1) :: undef :: undef :: undef :: undef :: undef :: undef :: (.agg (vals .u8 64 (dg abc))) :: undef :: undef :: []), defers := [] } w := by
  refine wpAnyH_ready (rs := [24, 26, 28]) (by kernel_rfl) (by simp) ?_
  refine AllReadyH.cons (o := awOp24) rfl (fun K hK => ?_) ?_
  · skip
    unfold awOp24
    go_simp
    refine (new_any w).mono ?_
    rintro e x ⟨rfl, hb⟩
    dsimp only
    have hS' := keepCall hb rfl hS
    refine hK.out _ _ hS' (fun _ => ?_)
    clear hK K
    simp only [List.setIfInBounds_toArray, List.set_cons_zero, List.set_cons_succ]
    exact aw_18 Q hQ u bd s2 s4 HG HD C0 C1 C2 C3 C63 H b1 x hS' (c1.low hb) g1
  · refine AllReadyH.cons (o := awOp26) rfl (fun K hK => ?_) ?_
    · skip
      have hS' := Below.freeze hS (a := ⟨b1, (#[.int .u8 97] : Array Value).size, none⟩) g1
      unfold awOp26
      rw [if_pos (by rfl)]
      refine wp_conv22 _ rfl rfl c1 ?_
      refine hK.out _ _ hS' (fun _ => ?_)
      clear hK K
      simp only [Act.put, List.setIfInBounds_toArray, List.set_cons_zero, List.set_cons_succ]
      exact aw_17 Q hQ u bd s2 s4 HG HD C0 C1 C2 C3 C63 H b1 (w.freeze ⟨b1, (#[.int .u8 97] : Array Value).size, none⟩ 1) hS' (c1.freeze _) g1
    · refine AllReadyH.cons (o := awOp28) rfl (fun K hK => ?_) AllReadyH.nil
      have hb := (Below.refl w.heap.size w).alloc (Nat.le_refl _) (.cells (#[.int .u8 98, .int .u8 99]) 5)
      have hS' := keepCall hb rfl hS
      obtain ⟨b2, eb2⟩ : ∃ b, b = w.heap.size := ⟨_, rfl⟩
      have c2 : Cel (w.alloc (.cells (#[.int .u8 98, .int .u8 99]) 5)) b2 #[.int .u8 98, .int .u8 99] := by rw [eb2]; exact (Blk.new w _ _).cel
      have g2 : u.heap.size ≤ b2 := by rw [eb2]; exact hS.size
      unfold awOp28
      go_simp
      rw [← eb2]
      refine hK.out _ _ hS' (fun _ => ?_)
      clear hK K
      simp only [List.setIfInBounds_toArray, List.set_cons_zero, List.set_cons_succ]
      exact aw_15 Q hQ u bd s2 s4 HG HD C0 C1 C2 C3 C63 H b1 b2 (w.alloc (.cells (#[.int .u8 98, .int .u8 99]) 5)) hS' (c1.low hb) g1 c2 g2
set_option maxRecDepth 100000 in
set_option maxHeartbeats 1000000 in
theorem aw_21 (Q : Exit → Act → World → Prop) (hQ : ∀ c a w n v, Q (.panic c) (a.put (some n) v) w → Q (.panic c) a w) (u : World) (bd : Nat) (s2 s4 : Value) (HG : Glob u) (HD : Blk u bd (vals .u8 64 (dg abc)) 24) (C0 : ∀ w', Below u.heap.size u w' → w'.cell? ⟨bd, 0, none⟩ = some (.int .u8 221)) (C1 : ∀ w', Below u.heap.size u w' → w'.cell? ⟨bd, 1, none⟩ = some (.int .u8 175)) (C2 : ∀ w', Below u.heap.size u w' → w'.cell? ⟨bd, 2, none⟩ = some (.int .u8 53)) (C3 : ∀ w', Below u.heap.size u w' → w'.cell? ⟨bd, 3, none⟩ = some (.int .u8 161)) (C63 : ∀ w', Below u.heap.size u w' → w'.cell? ⟨bd, 63, none⟩ = some (.int .u8 159)) (H : ∀ (b1 : Nat) (r : Nat → Nat) (f : Nat → Nat) (n : Nat) (b2 : Nat) (r2 : Nat → Nat) (f2 : Nat → Nat) (n2 : Nat) (w : World), Below u.heap.size u w → Cel w b1 #[.int .u8 97] → u.heap.size ≤ b1 → Rep r f n [97] → Cel w b2 #[.int .u8 98, .int .u8 99] → u.heap.size ≤ b2 → Rep r2 f2 n2 abc → Q .normal { tmps := List.toArray ((.bool true) :: (.pointer (some ⟨bd, 0, none⟩)) :: s2 :: s2 :: s4 :: (.agg (vals .u8 64 (dg abc))) :: (.pointer (some ⟨bd, 0, none⟩)) :: (.int .u8 221) :: (.bool true) :: (.bool true) :: (.pointer (some ⟨bd, 1, none⟩)) :: (.int .u8 175) :: (.bool true) :: (.bool true) :: (.bool true) :: (.pointer (some ⟨bd, 2, none⟩)) :: (.int .u8 53) :: (.bool true) :: (.bool true) :: (.bool true) :: (.pointer (some ⟨bd, 3, none⟩)) :: (.int .u8 161) :: (.bool true) :: (.bool true) :: (.bool true) :: (.pointer (some ⟨bd, 63, none⟩)) :: (.int .u8 159) :: (.bool true) :: (.bool true) :: (.bool true) :: (.agg (stc (fun _ => 0) (fun _ => 0) 0)) :: (.slice (some ⟨b1, 0, none⟩) 1 1) :: (.slice (some ⟨b1, 0, none⟩) 1 1) :: (.agg (stc r f n)) :: (.slice (some ⟨b2, 0, none⟩) 2 2) :: (.slice (some ⟨b2, 0, none⟩) 2 2) :: (.agg (stc r2 f2 n2)) :: (.agg (vals .u8 64 (dg abc))) :: (.agg (vals .u8 64 (dg abc))) :: (.bool true) :: (.bool true) :: []), defers := [] } w) (w : World) (hS : Below u.heap.size u w) :
    wpAnyH Tryd.prog .any awOps Q (fun w' => Below u.heap.size u w') 10 (List.toArray (true :: true :: true :: true :: true :: true :: true :: true :: true :: true :: true :: true :: true :: true :: true :: true :: true :: true :: true :: true :: true :: true :: true :: true :: true :: false :: false :: false :: false :: false :: false :: false :: true :: false :: false :: false :: [])) { tmps := List.toArray ((.bool false) :: (.pointer (some ⟨bd, 0, none⟩)) :: s2 :: s2 :: s4 :: (.agg (vals .u8 64 (dg abc))) :: (.pointer (some ⟨bd, 0, none⟩)) :: (.int .u8 221) :: (.bool true) :: (.bool true) :: (.pointer (some ⟨bd, 1, none⟩)) :: (.int .u8 175) :: (.bool true) :: (.bool true) :: (.bool true) :: (.pointer (some ⟨bd, 2, none⟩)) :: (.int .u8 53) :: (.bool true) :: (.bool true) :: (.bool true) :: (.pointer (some ⟨bd, 3, none⟩)) :: (.int .u8 161) :: (.bool true) :: (.bool true) :: (.bool true) :: (.pointer (some ⟨bd, 63, none⟩)) :: (.int .u8 159) :: (.bool true) :: (.bool true) :: (.bool true) :: (.agg (stc (fun _ => 0) (fun _ => 0) 0)) :: undef :: undef :: undef :: undef :: undef :: undef :: undef :: (.agg (vals .u8 64 (dg abc))) :: undef :: undef :: []), defers := [] } w := by
  refine wpAnyH_ready (rs := [25, 28]) (by kernel_rfl) (by simp) ?_
  refine AllReadyH.cons (o := awOp25) rfl (fun K hK => ?_) ?_
  · skip
    have hb := (Below.refl w.heap.size w).alloc (Nat.le_refl _) (.cells (#[.int .u8 97]) 5)
    have hS' := keepCall hb rfl hS
    obtain ⟨b1, eb1⟩ : ∃ b, b = w.heap.size := ⟨_, rfl⟩
    have c1 : Cel (w.alloc (.cells (#[.int .u8 97]) 5)) b1 #[.int .u8 97] := by rw [eb1]; exact (Blk.new w _ _).cel
    have g1 : u.heap.size ≤ b1 := by rw [eb1]; exact hS.size
    unfold awOp25
    go_simp
    rw [← eb1]
    refine hK.out _ _ hS' (fun _ => ?_)
    clear hK K
    simp only [List.setIfInBounds_toArray, List.set_cons_zero, List.set_cons_succ]
    exact aw_18 Q hQ u bd s2 s4 HG HD C0 C1 C2 C3 C63 H b1 (w.alloc (.cells (#[.int .u8 97]) 5)) hS' c1 g1
  · refine AllReadyH.cons (o := awOp28) rfl (fun K hK => ?_) AllReadyH.nil
    have hb := (Below.refl w.heap.size w).alloc (Nat.le_refl _) (.cells (#[.int .u8 98, .int .u8 99]) 5)
    have hS' := keepCall hb rfl hS
    obtain ⟨b2, eb2⟩ : ∃ b, b = w.heap.size := ⟨_, rfl⟩
    have c2 : Cel (w.alloc (.cells (#[.int .u8 98, .int .u8 99]) 5)) b2 #[.int .u8 98, .int .u8 99] := by rw [eb2]; exact (Blk.new w _ _).cel
    have g2 : u.heap.size ≤ b2 := by rw [eb2]; exact hS.size
    unfold awOp28
    go_simp
    rw [← eb2]
    refine hK.out _ _ hS' (fun _ => ?_)
    clear hK K
    simp only [List.setIfInBounds_toArray, List.set_cons_zero, List.set_cons_succ]
    exact aw_16 Q hQ u bd s2 s4 HG HD C0 C1 C2 C3 C63 H b2 (w.alloc (.cells (#[.int .u8 98, .int .u8 99]) 5)) hS' c2 g2
set_option maxRecDepth 100000 in
set_option maxHeartbeats 1000000 in
theorem aw_22 (Q : Exit → Act → World → Prop) (hQ : ∀ c a w n v, Q (.panic c) (a.put (some n) v) w → Q (.panic c) a w) (u : World) (bd : Nat) (s2 s4 : Value) (HG : Glob u) (HD : Blk u bd (vals .u8 64 (dg abc)) 24) (C0 : ∀ w', Below u.heap.size u w' → w'.cell? ⟨bd, 0, none⟩ = some (.int .u8 221)) (C1 : ∀ w', Below u.heap.size u w' → w'.cell? ⟨bd, 1, none⟩ = some (.int .u8 175)) (C2 : ∀ w', Below u.heap.size u w' → w'.cell? ⟨bd, 2, none⟩ = some (.int .u8 53)) (C3 : ∀ w', Below u.heap.size u w' → w'.cell? ⟨bd, 3, none⟩ = some (.int .u8 161)) (C63 : ∀ w', Below u.heap.size u w' → w'.cell? ⟨bd, 63, none⟩ = some (.int .u8 159)) (H : ∀ (b1 : Nat) (r : Nat → Nat) (f : Nat → Nat) (n : Nat) (b2 : Nat) (r2 : Nat → Nat) (f2 : Nat → Nat) (n2 : Nat) (w : World), Below u.heap.size u w → Cel w b1 #[.int .u8 97] → u.heap.size ≤ b1 → Rep r f n [97] → Cel w b2 #[.int .u8 98, .int .u8 99] → u.heap.size ≤ b2 → Rep r2 f2 n2 abc → Q .normal { tmps := List.toArray ((.bool true) :: (.pointer (some ⟨bd, 0, none⟩)) :: s2 :: s2 :: s4 :: (.agg (vals .u8 64 (dg abc))) :: (.pointer (some ⟨bd, 0, none⟩)) :: (.int .u8 221) :: (.bool true) :: (.bool true) :: (.pointer (some ⟨bd, 1, none⟩)) :: (.int .u8 175) :: (.bool true) :: (.bool true) :: (.bool true) :: (.pointer (some ⟨bd, 2, none⟩)) :: (.int .u8 53) :: (.bool true) :: (.bool true) :: (.bool true) :: (.pointer (some ⟨bd, 3, none⟩)) :: (.int .u8 161) :: (.bool true) :: (.bool true) :: (.bool true) :: (.pointer (some ⟨bd, 63, none⟩)) :: (.int .u8 159) :: (.bool true) :: (.bool true) :: (.bool true) :: (.agg (stc (fun _ => 0) (fun _ => 0) 0)) :: (.slice (some ⟨b1, 0, none⟩) 1 1) :: (.slice (some ⟨b1, 0, none⟩) 1 1) :: (.agg (stc r f n)) :: (.slice (some ⟨b2, 0, none⟩) 2 2) :: (.slice (some ⟨b2, 0, none⟩) 2 2) :: (.agg (stc r2 f2 n2)) :: (.agg (vals .u8 64 (dg abc))) :: (.agg (vals .u8 64 (dg abc))) :: (.bool true) :: (.bool true) :: []), defers := [] } w) (w : World) (hS : Below u.heap.size u w) :
    wpAnyH Tryd.prog .any awOps Q (fun w' => Below u.heap.size u w') 11 (List.toArray (true :: true :: true :: true :: true :: true :: true :: true :: true :: true :: true :: true :: true :: true :: true :: true :: true :: true :: true :: true :: true :: true :: true :: true :: false :: false :: false :: false :: false :: false :: false :: false :: true :: false :: false :: false :: [])) { tmps := List.toArray ((.bool false) :: (.pointer (some ⟨bd, 0, none⟩)) :: s2 :: s2 :: s4 :: (.agg (vals .u8 64 (dg abc))) :: (.pointer (some ⟨bd, 0, none⟩)) :: (.int .u8 221) :: (.bool true) :: (.bool true) :: (.pointer (some ⟨bd, 1, none⟩)) :: (.int .u8 175) :: (.bool true) :: (.bool true) :: (.bool true) :: (.pointer (some ⟨bd, 2, none⟩)) :: (.int .u8 53) :: (.bool true) :: (.bool true) :: (.bool true) :: (.pointer (some ⟨bd, 3, none⟩)) :: (.int .u8 161) :: (.bool true) :: (.bool true) :: (.bool true) :: (.pointer (some ⟨bd, 63, none⟩)) :: (.int .u8 159) :: (.bool true) :: (.bool true) :: (.bool true) :: undef :: undef :: undef :: undef :: undef :: undef :: undef :: undef :: (.agg (vals .u8 64 (dg abc))) :: undef :: undef :: []), defers := [] } w := by
  refine wpAnyH_ready (rs := [24, 25, 28]) (by kernel_rfl) (by simp) ?_
  refine AllReadyH.cons (o := awOp24) rfl (fun K hK => ?_) ?_
  · skip
    unfold awOp24
    go_simp
    refine (new_any w).mono ?_
    rintro e x ⟨rfl, hb⟩
    dsimp only
    have hS' := keepCall hb rfl hS
    refine hK.out _ _ hS' (fun _ => ?_)
    clear hK K
    simp only [List.setIfInBounds_toArray, List.set_cons_zero, List.set_cons_succ]
    exact aw_21 Q hQ u bd s2 s4 HG HD C0 C1 C2 C3 C63 H  x hS' 
  · refine AllReadyH.cons (o := awOp25) rfl (fun K hK => ?_) ?_
    · skip
      have hb := (Below.refl w.heap.size w).alloc (Nat.le_refl _) (.cells (#[.int .u8 97]) 5)
      have hS' := keepCall hb rfl hS
      obtain ⟨b1, eb1⟩ : ∃ b, b = w.heap.size := ⟨_, rfl⟩
      have c1 : Cel (w.alloc (.cells (#[.int .u8 97]) 5)) b1 #[.int .u8 97] := by rw [eb1]; exact (Blk.new w _ _).cel
      have g1 : u.heap.size ≤ b1 := by rw [eb1]; exact hS.size
      unfold awOp25
      go_simp
      rw [← eb1]
      refine hK.out _ _ hS' (fun _ => ?_)
      clear hK K
      simp only [List.setIfInBounds_toArray, List.set_cons_zero, List.set_cons_succ]
      exact aw_20 Q hQ u bd s2 s4 HG HD C0 C1 C2 C3 C63 H b1 (w.alloc (.cells (#[.int .u8 97]) 5)) hS' c1 g1
    · refine AllReadyH.cons (o := awOp28) rfl (fun K hK => ?_) AllReadyH.nil
      have hb := (Below.refl w.heap.size w).alloc (Nat.le_refl _) (.cells (#[.int .u8 98, .int .u8 99]) 5)
      have hS' := keepCall hb rfl hS
      obtain ⟨b2, eb2⟩ : ∃ b, b = w.heap.size := ⟨_, rfl⟩
      have c2 : Cel (w.alloc (.cells (#[.int .u8 98, .int .u8 99]) 5)) b2 #[.int .u8 98, .int .u8 99] := by rw [eb2]; exact (Blk.new w _ _).cel
      have g2 : u.heap.size ≤ b2 := by rw [eb2]; exact hS.size
      unfold awOp28
      go_simp
      rw [← eb2]
      refine hK.out _ _ hS' (fun _ => ?_)
      clear hK K
      simp only [List.setIfInBounds_toArray, List.set_cons_zero, List.set_cons_succ]
      exact aw_19 Q hQ u bd s2 s4 HG HD C0 C1 C2 C3 C63 H b2 (w.alloc (.cells (#[.int .u8 98, .int .u8 99]) 5)) hS' c2 g2
set_option maxRecDepth 100000 in
set_option maxHeartbeats 1000000 in
theorem aw_region (Q : Exit → Act → World → Prop) (hQ : ∀ c a w n v, Q (.panic c) (a.put (some n) v) w → Q (.panic c) a w) (u : World) (bd : Nat) (s2 s4 : Value) (HG : Glob u) (HD : Blk u bd (vals .u8 64 (dg abc)) 24) (C0 : ∀ w', Below u.heap.size u w' → w'.cell? ⟨bd, 0, none⟩ = some (.int .u8 221)) (C1 : ∀ w', Below u.heap.size u w' → w'.cell? ⟨bd, 1, none⟩ = some (.int .u8 175)) (C2 : ∀ w', Below u.heap.size u w' → w'.cell? ⟨bd, 2, none⟩ = some (.int .u8 53)) (C3 : ∀ w', Below u.heap.size u w' → w'.cell? ⟨bd, 3, none⟩ = some (.int .u8 161)) (C63 : ∀ w', Below u.heap.size u w' → w'.cell? ⟨bd, 63, none⟩ = some (.int .u8 159)) (H : ∀ (b1 : Nat) (r : Nat → Nat) (f : Nat → Nat) (n : Nat) (b2 : Nat) (r2 : Nat → Nat) (f2 : Nat → Nat) (n2 : Nat) (w : World), Below u.heap.size u w → Cel w b1 #[.int .u8 97] → u.heap.size ≤ b1 → Rep r f n [97] → Cel w b2 #[.int .u8 98, .int .u8 99] → u.heap.size ≤ b2 → Rep r2 f2 n2 abc → Q .normal { tmps := List.toArray ((.bool true) :: (.pointer (some ⟨bd, 0, none⟩)) :: s2 :: s2 :: s4 :: (.agg (vals .u8 64 (dg abc))) :: (.pointer (some ⟨bd, 0, none⟩)) :: (.int .u8 221) :: (.bool true) :: (.bool true) :: (.pointer (some ⟨bd, 1, none⟩)) :: (.int .u8 175) :: (.bool true) :: (.bool true) :: (.bool true) :: (.pointer (some ⟨bd, 2, none⟩)) :: (.int .u8 53) :: (.bool true) :: (.bool true) :: (.bool true) :: (.pointer (some ⟨bd, 3, none⟩)) :: (.int .u8 161) :: (.bool true) :: (.bool true) :: (.bool true) :: (.pointer (some ⟨bd, 63, none⟩)) :: (.int .u8 159) :: (.bool true) :: (.bool true) :: (.bool true) :: (.agg (stc (fun _ => 0) (fun _ => 0) 0)) :: (.slice (some ⟨b1, 0, none⟩) 1 1) :: (.slice (some ⟨b1, 0, none⟩) 1 1) :: (.agg (stc r f n)) :: (.slice (some ⟨b2, 0, none⟩) 2 2) :: (.slice (some ⟨b2, 0, none⟩) 2 2) :: (.agg (stc r2 f2 n2)) :: (.agg (vals .u8 64 (dg abc))) :: (.agg (vals .u8 64 (dg abc))) :: (.bool true) :: (.bool true) :: []), defers := [] } w) :
    (Code.region 2 awOps true).wp Tryd.prog Q { tmps := List.toArray ((.bool false) :: (.pointer (some ⟨bd, 0, none⟩)) :: s2 :: s2 :: s4 :: (.agg (vals .u8 64 (dg abc))) :: undef :: undef :: undef :: undef :: undef :: undef :: undef :: undef :: undef :: undef :: undef :: undef :: undef :: undef :: undef :: undef :: undef :: undef :: undef :: undef :: undef :: undef :: undef :: undef :: undef :: undef :: undef :: undef :: undef :: undef :: undef :: undef :: undef :: undef :: undef :: []), defers := [] } u := by
  refine wp_region_held_drew (S := (fun w' => Below u.heap.size u w')) (by kernel_rfl) (Below.refl _ _).drew (fun hS => ?_)
  refine wpAnyH_take (i := 0) (oi := awOp0) (v := .pointer (some ⟨bd, 0, none⟩)) rfl (by kernel_rfl) (by kernel_rfl) (by kernel_rfl) (fun _ _ _ => hQ _ _ _ _ _) (Or.inl ⟨by rfl, fun w hSw => by unfold awOp0; go_simp⟩) hS ?_
  try simp only [awOp0, Act.put, List.setIfInBounds_toArray, List.set_cons_zero, List.set_cons_succ]
  refine wpAnyH_take (i := 1) (oi := awOp1) (v := .int .u8 221) rfl (by kernel_rfl) (by kernel_rfl) (by kernel_rfl) (fun _ _ _ => hQ _ _ _ _ _) (Or.inl ⟨by rfl, fun w hSw => by have h0 := C0 w hSw; unfold awOp1; go_simp⟩) hS ?_
  try simp only [awOp1, Act.put, List.setIfInBounds_toArray, List.set_cons_zero, List.set_cons_succ]
  refine wpAnyH_take (i := 2) (oi := awOp2) (v := .bool true) rfl (by kernel_rfl) (by kernel_rfl) (by kernel_rfl) (fun _ _ _ => hQ _ _ _ _ _) (Or.inl ⟨by rfl, fun w hSw => by unfold awOp2; go_simp⟩) hS ?_
  try simp only [awOp2, Act.put, List.setIfInBounds_toArray, List.set_cons_zero, List.set_cons_succ]
  refine wpAnyH_take (i := 3) (oi := awOp3) (v := .bool true) rfl (by kernel_rfl) (by kernel_rfl) (by kernel_rfl) (fun _ _ _ => hQ _ _ _ _ _) (Or.inl ⟨by rfl, fun w hSw => by unfold awOp3; go_simp⟩) hS ?_
  try simp only [awOp3, Act.put, List.setIfInBounds_toArray, List.set_cons_zero, List.set_cons_succ]
  refine wpAnyH_take (i := 4) (oi := awOp4) (v := .pointer (some ⟨bd, 1, none⟩)) rfl (by kernel_rfl) (by kernel_rfl) (by kernel_rfl) (fun _ _ _ => hQ _ _ _ _ _) (Or.inl ⟨by rfl, fun w hSw => by unfold awOp4; go_simp⟩) hS ?_
  try simp only [awOp4, Act.put, List.setIfInBounds_toArray, List.set_cons_zero, List.set_cons_succ]
  refine wpAnyH_take (i := 5) (oi := awOp5) (v := .int .u8 175) rfl (by kernel_rfl) (by kernel_rfl) (by kernel_rfl) (fun _ _ _ => hQ _ _ _ _ _) (Or.inl ⟨by rfl, fun w hSw => by have h0 := C1 w hSw; unfold awOp5; go_simp⟩) hS ?_
  try simp only [awOp5, Act.put, List.setIfInBounds_toArray, List.set_cons_zero, List.set_cons_succ]
  refine wpAnyH_take (i := 6) (oi := awOp6) (v := .bool true) rfl (by kernel_rfl) (by kernel_rfl) (by kernel_rfl) (fun _ _ _ => hQ _ _ _ _ _) (Or.inl ⟨by rfl, fun w hSw => by unfold awOp6; go_simp⟩) hS ?_
  try simp only [awOp6, Act.put, List.setIfInBounds_toArray, List.set_cons_zero, List.set_cons_succ]
  refine wpAnyH_take (i := 7) (oi := awOp7) (v := .bool true) rfl (by kernel_rfl) (by kernel_rfl) (by kernel_rfl) (fun _ _ _ => hQ _ _ _ _ _) (Or.inl ⟨by rfl, fun w hSw => by unfold awOp7; go_simp⟩) hS ?_
  try simp only [awOp7, Act.put, List.setIfInBounds_toArray, List.set_cons_zero, List.set_cons_succ]
  refine wpAnyH_take (i := 8) (oi := awOp8) (v := .bool true) rfl (by kernel_rfl) (by kernel_rfl) (by kernel_rfl) (fun _ _ _ => hQ _ _ _ _ _) (Or.inl ⟨by rfl, fun w hSw => by unfold awOp8; go_simp⟩) hS ?_
  try simp only [awOp8, Act.put, List.setIfInBounds_toArray, List.set_cons_zero, List.set_cons_succ]
  refine wpAnyH_take (i := 9) (oi := awOp9) (v := .pointer (some ⟨bd, 2, none⟩)) rfl (by kernel_rfl) (by kernel_rfl) (by kernel_rfl) (fun _ _ _ => hQ _ _ _ _ _) (Or.inl ⟨by rfl, fun w hSw => by unfold awOp9; go_simp⟩) hS ?_
  try simp only [awOp9, Act.put, List.setIfInBounds_toArray, List.set_cons_zero, List.set_cons_succ]
  refine wpAnyH_take (i := 10) (oi := awOp10) (v := .int .u8 53) rfl (by kernel_rfl) (by kernel_rfl) (by kernel_rfl) (fun _ _ _ => hQ _ _ _ _ _) (Or.inl ⟨by rfl, fun w hSw => by have h0 := C2 w hSw; unfold awOp10; go_simp⟩) hS ?_
  try simp only [awOp10, Act.put, List.setIfInBounds_toArray, List.set_cons_zero, List.set_cons_succ]
  refine wpAnyH_take (i := 11) (oi := awOp11) (v := .bool true) rfl (by kernel_rfl) (by kernel_rfl) (by kernel_rfl) (fun _ _ _ => hQ _ _ _ _ _) (Or.inl ⟨by rfl, fun w hSw => by unfold awOp11; go_simp⟩) hS ?_
  try simp only [awOp11, Act.put, List.setIfInBounds_toArray, List.set_cons_zero, List.set_cons_succ]
  refine wpAnyH_take (i := 12) (oi := awOp12) (v := .bool true) rfl (by kernel_rfl) (by kernel_rfl) (by kernel_rfl) (fun _ _ _ => hQ _ _ _ _ _) (Or.inl ⟨by rfl, fun w hSw => by unfold awOp12; go_simp⟩) hS ?_
  try simp only [awOp12, Act.put, List.setIfInBounds_toArray, List.set_cons_zero, List.set_cons_succ]
  refine wpAnyH_take (i := 13) (oi := awOp13) (v := .bool true) rfl (by kernel_rfl) (by kernel_rfl) (by kernel_rfl) (fun _ _ _ => hQ _ _ _ _ _) (Or.inl ⟨by rfl, fun w hSw => by unfold awOp13; go_simp⟩) hS ?_
  try simp only [awOp13, Act.put, List.setIfInBounds_toArray, List.set_cons_zero, List.set_cons_succ]
  refine wpAnyH_take (i := 14) (oi := awOp14) (v := .pointer (some ⟨bd, 3, none⟩)) rfl (by kernel_rfl) (by kernel_rfl) (by kernel_rfl) (fun _ _ _ => hQ _ _ _ _ _) (Or.inl ⟨by rfl, fun w hSw => by unfold awOp14; go_simp⟩) hS ?_
  try simp only [awOp14, Act.put, List.setIfInBounds_toArray, List.set_cons_zero, List.set_cons_succ]
  refine wpAnyH_take (i := 15) (oi := awOp15) (v := .int .u8 161) rfl (by kernel_rfl) (by kernel_rfl) (by kernel_rfl) (fun _ _ _ => hQ _ _ _ _ _) (Or.inl ⟨by rfl, fun w hSw => by have h0 := C3 w hSw; unfold awOp15; go_simp⟩) hS ?_
  try simp only [awOp15, Act.put, List.setIfInBounds_toArray, List.set_cons_zero, List.set_cons_succ]
  refine wpAnyH_take (i := 16) (oi := awOp16) (v := .bool true) rfl (by kernel_rfl) (by kernel_rfl) (by kernel_rfl) (fun _ _ _ => hQ _ _ _ _ _) (Or.inl ⟨by rfl, fun w hSw => by unfold awOp16; go_simp⟩) hS ?_
  try simp only [awOp16, Act.put, List.setIfInBounds_toArray, List.set_cons_zero, List.set_cons_succ]
  refine wpAnyH_take (i := 17) (oi := awOp17) (v := .bool true) rfl (by kernel_rfl) (by kernel_rfl) (by kernel_rfl) (fun _ _ _ => hQ _ _ _ _ _) (Or.inl ⟨by rfl, fun w hSw => by unfold awOp17; go_simp⟩) hS ?_
  try simp only [awOp17, Act.put, List.setIfInBounds_toArray, List.set_cons_zero, List.set_cons_succ]
  refine wpAnyH_take (i := 18) (oi := awOp18) (v := .bool true) rfl (by kernel_rfl) (by kernel_rfl) (by kernel_rfl) (fun _ _ _ => hQ _ _ _ _ _) (Or.inl ⟨by rfl, fun w hSw => by unfold awOp18; go_simp⟩) hS ?_
  try simp only [awOp18, Act.put, List.setIfInBounds_toArray, List.set_cons_zero, List.set_cons_succ]
  refine wpAnyH_take (i := 19) (oi := awOp19) (v := .pointer (some ⟨bd, 63, none⟩)) rfl (by kernel_rfl) (by kernel_rfl) (by kernel_rfl) (fun _ _ _ => hQ _ _ _ _ _) (Or.inl ⟨by rfl, fun w hSw => by unfold awOp19; go_simp⟩) hS ?_
  try simp only [awOp19, Act.put, List.setIfInBounds_toArray, List.set_cons_zero, List.set_cons_succ]
  refine wpAnyH_take (i := 20) (oi := awOp20) (v := .int .u8 159) rfl (by kernel_rfl) (by kernel_rfl) (by kernel_rfl) (fun _ _ _ => hQ _ _ _ _ _) (Or.inl ⟨by rfl, fun w hSw => by have h0 := C63 w hSw; unfold awOp20; go_simp⟩) hS ?_
  try simp only [awOp20, Act.put, List.setIfInBounds_toArray, List.set_cons_zero, List.set_cons_succ]
  refine wpAnyH_take (i := 21) (oi := awOp21) (v := .bool true) rfl (by kernel_rfl) (by kernel_rfl) (by kernel_rfl) (fun _ _ _ => hQ _ _ _ _ _) (Or.inl ⟨by rfl, fun w hSw => by unfold awOp21; go_simp⟩) hS ?_
  try simp only [awOp21, Act.put, List.setIfInBounds_toArray, List.set_cons_zero, List.set_cons_succ]
  refine wpAnyH_take (i := 22) (oi := awOp22) (v := .bool true) rfl (by kernel_rfl) (by kernel_rfl) (by kernel_rfl) (fun _ _ _ => hQ _ _ _ _ _) (Or.inl ⟨by rfl, fun w hSw => by unfold awOp22; go_simp⟩) hS ?_
  try simp only [awOp22, Act.put, List.setIfInBounds_toArray, List.set_cons_zero, List.set_cons_succ]
  refine wpAnyH_take (i := 23) (oi := awOp23) (v := .bool true) rfl (by kernel_rfl) (by kernel_rfl) (by kernel_rfl) (fun _ _ _ => hQ _ _ _ _ _) (Or.inl ⟨by rfl, fun w hSw => by unfold awOp23; go_simp⟩) hS ?_
  try simp only [awOp23, Act.put, List.setIfInBounds_toArray, List.set_cons_zero, List.set_cons_succ]
  refine wpAnyH_take (i := 32) (oi := awOp32) (v := .agg (vals .u8 64 (dg abc))) rfl (by kernel_rfl) (by kernel_rfl) (by kernel_rfl) (fun _ _ _ => hQ _ _ _ _ _) (yields_S (fun w' h => HD.call h) (by rfl) 24 _ rfl rfl _ Tryd.underlying24 rfl (by rw [vals_size]; exact cells24)) hS ?_
  try simp only [awOp32, Act.put, List.setIfInBounds_toArray, List.set_cons_zero, List.set_cons_succ]
  exact aw_22 Q hQ u bd s2 s4 HG HD C0 C1 C2 C3 C63 H u.drew hS
end Go.Proofs.YtplckpmicoohnaaDoor

/- Walks of chapter 5: Expand. -/
import Derived.Test.YtjnjedannpnjiaaDoorXb
namespace Go.Proofs.YtjnjedannpnjiaaDoor
open Go.RowKit

def xeOp0 : Oper := { dst := some 30, op := Op.move (Operand.tmp 11), type := 3, pos := "kdf.go:35", after := #[], guard := none }
def xeOp1 : Oper := { dst := some 31, op := Op.move (Operand.tmp 9), type := 23, pos := "kdf.go:35", after := #[], guard := none }
def xeOp2 : Oper := { dst := some 32, op := Op.move (Operand.tmp 11), type := 3, pos := "kdf.go:35", after := #[], guard := none }
def xeOp3 : Oper := { dst := some 33, op := Op.slice 23 (Operand.tmp 31) (some (Operand.tmp 32)) none none, type := 23, pos := "kdf.go:35", after := #[{ on := 1, ground := Ground.data }, { on := 2, ground := Ground.data }], guard := none }
def xeOp4 : Oper := { dst := some 34, op := Op.slice 27 (Operand.tmp 12) none none none, type := 23, pos := "kdf.go:35", after := #[], guard := none }
def xeOp5 : Oper := { dst := some 35, op := Op.call { callee := Callee.builtin Builtin.copy, args := #[Operand.tmp 33, Operand.tmp 34], argTypes := #[23, 23] }, type := 3, pos := "kdf.go:35", after := #[{ on := 3, ground := Ground.data }, { on := 4, ground := Ground.data }], guard := none }
def xeOp6 : Oper := { dst := some 36, op := Op.binOp BinOp.add 3 (Operand.tmp 30) (Operand.tmp 35) 3, type := 3, pos := "kdf.go:35", after := #[{ on := 0, ground := Ground.data }, { on := 5, ground := Ground.data }], guard := none }
def xeOp7 : Oper := { dst := some 11, op := Op.assign (Operand.tmp 36), type := 3, pos := "kdf.go:35", after := #[{ on := 6, ground := Ground.data }, { on := 5, ground := Ground.chain }, { on := 0, ground := Ground.phase }, { on := 1, ground := Ground.phase }, { on := 2, ground := Ground.phase }, { on := 3, ground := Ground.phase }, { on := 4, ground := Ground.phase }, { on := 5, ground := Ground.phase }, { on := 6, ground := Ground.phase }], guard := none }
def xeOps : Array Oper := #[xeOp0, xeOp1, xeOp2, xeOp3, xeOp4, xeOp5, xeOp6, xeOp7]
set_option maxRecDepth 100000 in
set_option maxHeartbeats 1000000 in
theorem xe_region (Q : Exit → Act → World → Prop) (hQ : ∀ c a w n v, Q (.panic c) (a.put (some n) v) w → Q (.panic c) a w) (u : World) (z0 z1 z3 z4 z5 z6 z7 z8 z10 z13 z14 z15 z16 z17 z18 z19 z20 z21 z22 z23 z24 z25 z26 z27 z28 z29 z30 z31 z32 z33 z34 z35 z36 z37 z38 : Value) (g b n d m e : Nat) (F f : Nat → Nat) (hG : Blk u g (vals .u8 n F) 5) (hB : Blk u b (vals .u8 64 f) 27) (hd : d < n) (hm : m = min 64 (n - d)) (he : e = d + m) (hn : n < 2 ^ 20)
    (H : Q .normal { tmps := List.toArray (z0 :: z1 :: (.int .i64 (n : Int)) :: z3 :: z4 :: z5 :: z6 :: z7 :: z8 :: (.slice (some ⟨g, 0, none⟩) n n) :: z10 :: (.int .i64 (e : Int)) :: (.pointer (some ⟨b, 0, none⟩)) :: z13 :: z14 :: z15 :: z16 :: z17 :: z18 :: z19 :: z20 :: z21 :: z22 :: z23 :: z24 :: z25 :: z26 :: z27 :: z28 :: z29 :: (.int .i64 (d : Int)) :: (.slice (some ⟨g, 0, none⟩) n n) :: (.int .i64 (d : Int)) :: (.slice (some ⟨g, d, none⟩) (n - d) (n - d)) :: (.slice (some ⟨b, 0, none⟩) 64 64) :: (.int .i64 (m : Int)) :: (.int .i64 (e : Int)) :: z37 :: z38 :: []), defers := [] } (u.drew.setRow g (vals .u8 n (laid F f d m)))) :
    (Code.region 11 xeOps true).wp Tryd.prog Q { tmps := List.toArray (z0 :: z1 :: (.int .i64 (n : Int)) :: z3 :: z4 :: z5 :: z6 :: z7 :: z8 :: (.slice (some ⟨g, 0, none⟩) n n) :: z10 :: (.int .i64 (d : Int)) :: (.pointer (some ⟨b, 0, none⟩)) :: z13 :: z14 :: z15 :: z16 :: z17 :: z18 :: z19 :: z20 :: z21 :: z22 :: z23 :: z24 :: z25 :: z26 :: z27 :: z28 :: z29 :: z30 :: z31 :: z32 :: z33 :: z34 :: z35 :: z36 :: z37 :: z38 :: []), defers := [] } u := by
  have hcut : ∀ w, (Instr.slice 23 (.slice (some ⟨g, 0, none⟩) n n) (some (.int .i64 d)) none none).run Tryd.prog w = .ok (.slice (some ⟨g, d, none⟩) (n - d) (n - d)) w := fun w => by
    rw [run_cut _ n n d (by omega) w]
    unfold cutA
    rw [if_neg (by omega)]
    simp [Addr.add_mid]
  have hsum : IntKind.i64.wrap ((d : Int) + (m : Int)) = (e : Int) := by unfold IntKind.wrap; simp [IntKind.bits, IntKind.signed]; omega
  have hcp := copy_out u.drew g b n d m F f 5 27 hG.drew hB.drew (by omega) hm (n - d)
  clear hm he hG hB hd hn
  refine wp_region_held_drew (S := fun _ => True) (by kernel_rfl) trivial (fun hS => ?_)
  refine wpAnyH_take (i := 0) (oi := xeOp0) (v := .int .i64 (d : Int)) rfl (by kernel_rfl) (by kernel_rfl) (by kernel_rfl) (fun _ _ _ => hQ _ _ _ _ _) (Or.inl ⟨by rfl, fun w hSw => by unfold xeOp0; go_simp⟩) trivial ?_
  simp only [xeOp0, Act.put, List.setIfInBounds_toArray, List.set_cons_zero, List.set_cons_succ]
  refine wpAnyH_take (i := 1) (oi := xeOp1) (v := .slice (some ⟨g, 0, none⟩) n n) rfl (by kernel_rfl) (by kernel_rfl) (by kernel_rfl) (fun _ _ _ => hQ _ _ _ _ _) (Or.inl ⟨by rfl, fun w hSw => by unfold xeOp1; go_simp⟩) trivial ?_
  simp only [xeOp1, Act.put, List.setIfInBounds_toArray, List.set_cons_zero, List.set_cons_succ]
  refine wpAnyH_take (i := 2) (oi := xeOp2) (v := .int .i64 (d : Int)) rfl (by kernel_rfl) (by kernel_rfl) (by kernel_rfl) (fun _ _ _ => hQ _ _ _ _ _) (Or.inl ⟨by rfl, fun w hSw => by unfold xeOp2; go_simp⟩) trivial ?_
  simp only [xeOp2, Act.put, List.setIfInBounds_toArray, List.set_cons_zero, List.set_cons_succ]
  refine wpAnyH_take (i := 3) (oi := xeOp3) (v := .slice (some ⟨g, d, none⟩) (n - d) (n - d)) rfl (by kernel_rfl) (by kernel_rfl) (by kernel_rfl) (fun _ _ _ => hQ _ _ _ _ _) (Or.inl ⟨by rfl, fun w hSw => by have hc := hcut w; unfold xeOp3; go_simp⟩) trivial ?_
  simp only [xeOp3, Act.put, List.setIfInBounds_toArray, List.set_cons_zero, List.set_cons_succ]
  refine wpAnyH_take (i := 4) (oi := xeOp4) (v := .slice (some ⟨b, 0, none⟩) 64 64) rfl (by kernel_rfl) (by kernel_rfl) (by kernel_rfl) (fun _ _ _ => hQ _ _ _ _ _) (Or.inl ⟨by rfl, fun w hSw => by unfold xeOp4; go_simp⟩) trivial ?_
  simp only [xeOp4, Act.put, List.setIfInBounds_toArray, List.set_cons_zero, List.set_cons_succ]
  refine wpAnyH_ready (rs := [5]) (by kernel_rfl) (by simp) ?_
  refine AllReadyH.cons (o := xeOp5) rfl (fun K hK => ?_) AllReadyH.nil
  unfold xeOp5
  go_simp
  refine hK.out _ _ trivial (fun _ => ?_)
  clear hK K
  try simp only [Act.put, List.setIfInBounds_toArray, List.set_cons_zero, List.set_cons_succ]
  refine wpAnyH_take (i := 6) (oi := xeOp6) (v := .int .i64 (e : Int)) rfl (by kernel_rfl) (by kernel_rfl) (by kernel_rfl) (fun _ _ _ => hQ _ _ _ _ _) (Or.inl ⟨by rfl, fun w hSw => by have hc := hsum; unfold xeOp6; go_simp⟩) trivial ?_
  simp only [xeOp6, Act.put, List.setIfInBounds_toArray, List.set_cons_zero, List.set_cons_succ]
  refine wpAnyH_take (i := 7) (oi := xeOp7) (v := .int .i64 (e : Int)) rfl (by kernel_rfl) (by kernel_rfl) (by kernel_rfl) (fun _ _ _ => hQ _ _ _ _ _) (Or.inl ⟨by rfl, fun w hSw => by unfold xeOp7; go_simp⟩) trivial ?_
  simp only [xeOp7, Act.put, List.setIfInBounds_toArray, List.set_cons_zero, List.set_cons_succ]
  exact wpAnyH_done (by kernel_rfl) H _
end Go.Proofs.YtjnjedannpnjiaaDoor

/- What one operation on words, bytes, places tells; rows of this program's types. No conditions but those that each names. -/
import Derived.Test.YtanahjoiilfcbaaDoorOw
import Derived.Test.YtanahjoiilfcbaaDoorRl
import Derived.Test.YtanahjoiilfcbaaDoorPm
namespace Go.Proofs.YtanahjoiilfcbaaDoor
set_option maxRecDepth 100000
open Go.RowKit Rg

theorem agg_u64 (w : World) : (isAgg 38).run Tryd.prog w = .ok false w := by kernel_rfl
theorem agg_u8 (w : World) : (isAgg 5).run Tryd.prog w = .ok false w := by kernel_rfl
theorem agg_int (w : World) : (isAgg 3).run Tryd.prog w = .ok false w := by kernel_rfl
theorem agg_bs (w : World) : (isAgg 25).run Tryd.prog w = .ok false w := by kernel_rfl
theorem sz_u64 (w : World) : (sizeOf 38).run Tryd.prog w = .ok 1 w := by kernel_rfl
theorem sz_u8 (w : World) : (sizeOf 5).run Tryd.prog w = .ok 1 w := by kernel_rfl
theorem sz_int (w : World) : (sizeOf 3).run Tryd.prog w = .ok 1 w := by kernel_rfl
theorem sz_bs (w : World) : (sizeOf 25).run Tryd.prog w = .ok 1 w := by kernel_rfl
theorem fit_sl (n : Nat) (f : Nat → Nat) : Fit 5 (vals .u8 n f) := ⟨fun h => (by cases h), vals_one _ _ _⟩
theorem fit_b32 (f : Nat → Nat) : Fit 23 (vals .u8 32 f) := ⟨fun _ => by rw [vals_size]; kernel_rfl, vals_one _ _ _⟩
theorem cells_b32 (f : Nat → Nat) : (Tryd.prog.info? 23).map (·.size) = some (vals .u8 32 f).size := by rw [vals_size]; kernel_rfl
theorem al_b32 {a : Act} {o : Oper} (ho : o.op = .alloc 23) (w : World) : (execOp a.eval o).run Tryd.prog w = .ok (.value (D w.heap.size)) (w.alloc (.cells (vals .u8 32 fun _ => 0) 23)) := by unfold execOp; simp only [ho]; kernel_rfl
theorem bd_b32 : Tryd.prog.built 23 [] = some (vals .u8 32 (fun _ => 0)) := by kernel_rfl
theorem fit_b16 (f : Nat → Nat) : Fit 35 (vals .u8 16 f) := ⟨fun _ => by rw [vals_size]; kernel_rfl, vals_one _ _ _⟩
theorem cells_b16 (f : Nat → Nat) : (Tryd.prog.info? 35).map (·.size) = some (vals .u8 16 f).size := by rw [vals_size]; kernel_rfl
theorem al_b16 {a : Act} {o : Oper} (ho : o.op = .alloc 35) (w : World) : (execOp a.eval o).run Tryd.prog w = .ok (.value (D w.heap.size)) (w.alloc (.cells (vals .u8 16 fun _ => 0) 35)) := by unfold execOp; simp only [ho]; kernel_rfl
theorem bd_b16 : Tryd.prog.built 35 [] = some (vals .u8 16 (fun _ => 0)) := by kernel_rfl
theorem fit_b12 (f : Nat → Nat) : Fit 24 (vals .u8 12 f) := ⟨fun _ => by rw [vals_size]; kernel_rfl, vals_one _ _ _⟩
theorem cells_b12 (f : Nat → Nat) : (Tryd.prog.info? 24).map (·.size) = some (vals .u8 12 f).size := by rw [vals_size]; kernel_rfl
theorem al_b12 {a : Act} {o : Oper} (ho : o.op = .alloc 24) (w : World) : (execOp a.eval o).run Tryd.prog w = .ok (.value (D w.heap.size)) (w.alloc (.cells (vals .u8 12 fun _ => 0) 24)) := by unfold execOp; simp only [ho]; kernel_rfl
theorem bd_b12 : Tryd.prog.built 24 [] = some (vals .u8 12 (fun _ => 0)) := by kernel_rfl
theorem fit_l3 (f : Nat → Nat) : Fit 55 (vals .u64 3 f) := ⟨fun _ => by rw [vals_size]; kernel_rfl, vals_one _ _ _⟩
theorem cells_l3 (f : Nat → Nat) : (Tryd.prog.info? 55).map (·.size) = some (vals .u64 3 f).size := by rw [vals_size]; kernel_rfl
theorem al_l3 {a : Act} {o : Oper} (ho : o.op = .alloc 55) (w : World) : (execOp a.eval o).run Tryd.prog w = .ok (.value (D w.heap.size)) (w.alloc (.cells (vals .u64 3 fun _ => 0) 55)) := by unfold execOp; simp only [ho]; kernel_rfl
theorem bd_l3 : Tryd.prog.built 55 [] = some (vals .u64 3 (fun _ => 0)) := by kernel_rfl
theorem fit_n40 (f : Nat → Nat) : Fit 67 (vals .i64 40 f) := ⟨fun _ => by rw [vals_size]; kernel_rfl, vals_one _ _ _⟩
theorem cells_n40 (f : Nat → Nat) : (Tryd.prog.info? 67).map (·.size) = some (vals .i64 40 f).size := by rw [vals_size]; kernel_rfl
theorem al_n40 {a : Act} {o : Oper} (ho : o.op = .alloc 67) (w : World) : (execOp a.eval o).run Tryd.prog w = .ok (.value (D w.heap.size)) (w.alloc (.cells (vals .i64 40 fun _ => 0) 67)) := by unfold execOp; simp only [ho]; kernel_rfl
theorem bd_n40 : Tryd.prog.built 67 [] = some (vals .i64 40 (fun _ => 0)) := by kernel_rfl
theorem fit_w5 (f : Nat → Nat) : Fit 77 (vals .u64 5 f) := ⟨fun _ => by rw [vals_size]; kernel_rfl, vals_one _ _ _⟩
theorem cells_w5 (f : Nat → Nat) : (Tryd.prog.info? 77).map (·.size) = some (vals .u64 5 f).size := by rw [vals_size]; kernel_rfl
theorem al_w5 {a : Act} {o : Oper} (ho : o.op = .alloc 77) (w : World) : (execOp a.eval o).run Tryd.prog w = .ok (.value (D w.heap.size)) (w.alloc (.cells (vals .u64 5 fun _ => 0) 77)) := by unfold execOp; simp only [ho]; kernel_rfl
theorem bd_w5 : Tryd.prog.built 77 [] = some (vals .u64 5 (fun _ => 0)) := by kernel_rfl
theorem fit_k2 (f : Nat → Nat) : Fit 57 (vals .u64 2 f) := ⟨fun _ => by rw [vals_size]; kernel_rfl, vals_one _ _ _⟩
theorem cells_k2 (f : Nat → Nat) : (Tryd.prog.info? 57).map (·.size) = some (vals .u64 2 f).size := by rw [vals_size]; kernel_rfl
theorem al_k2 {a : Act} {o : Oper} (ho : o.op = .alloc 57) (w : World) : (execOp a.eval o).run Tryd.prog w = .ok (.value (D w.heap.size)) (w.alloc (.cells (vals .u64 2 fun _ => 0) 57)) := by unfold execOp; simp only [ho]; kernel_rfl
theorem bd_k2 : Tryd.prog.built 57 [] = some (vals .u64 2 (fun _ => 0)) := by kernel_rfl
theorem ld_addr {ρ : Operand → Value} {o : Oper} (ty : TypeId) (hu : ∀ w, (isAgg ty).run Tryd.prog w = .ok false w) {x : Operand} (ho : o.op = .load ty x) {ad : Addr} (hx : ρ x = .pointer (some ad)) {w : World} {v : Value} (hc : w.cell? ad = some v) : (execOp ρ o).run Tryd.prog w = .ok (.value v) w := by
  unfold execOp
  simp only [ho, hx]
  go_simp
section
variable {b : Bool} {ops : Array Oper} {sts : List Nat} {F : Nu → Act} {u : World} {L : Nat → Nu → List Row} {i : Nat} {o : Oper}
theorem nca (v : Value) {ty : TypeId} {x : Operand} {ad : Addr} (hc : ∀ w, Below u.heap.size u w → w.cell? ad = some v) (hu : ∀ w, (isAgg ty).run Tryd.prog w = .ok false w) (ho : o.op = .load ty x := by rfl) (hx : ∀ ν, (F ν).eval x = .pointer (some ad) := by intro ν; kernel_rfl)
    (hv : ∀ ν, vof (F ν) o = v := by intro ν; kernel_rfl) (hw : ∀ ν, Region.wanted o (yielded ops (F ν).tmps) = true := by intro ν; kernel_rfl) (hn : sts.contains i = false := by kernel_rfl) : Ob b Tryd.prog ops sts F (OI u L) i o :=
  nw 0 sts.length (fun _ => v) (fun _ ν w _ _ hO => ld_addr ty hu ho (hx ν) (hc w (Own.low hO))) (by simp [win]) hv hw hn
/-- An operation that tells nothing. -/
theorem nm (v : Nu → Value) (hrun : ∀ ν w, (execOp (F ν).eval o).run Tryd.prog w = .ok (.value (v ν)) w := by intro ν w; kernel_rfl) (hd : o.dst = none := by rfl) (hw : ∀ ν, Region.wanted o (yielded ops (F ν).tmps) = true := by intro ν; kernel_rfl) (hn : sts.contains i = false := by kernel_rfl) : Ob b Tryd.prog ops sts F (OI u L) i o :=
  .inl ⟨hn, fun ν => .inl ⟨hw ν, v ν, by rw [hd]; rfl, 0, sts.length, by simp [win], fun _ w _ _ _ => hrun ν w⟩⟩
end
section
variable {ρ : Operand → Value} {o : Oper} {x y z : Operand}
theorem b_ia_b32 {n a : Nat} (ha : a < 32) (w : World) (ho : o.op = .indexAddr 23 x y := by rfl) (hx : ρ x = D n := by kernel_rfl) (hy : ρ y = Nv .i64 a := by kernel_rfl) : (execOp ρ o).run Tryd.prog w = .ok (.value (E n a)) w := by
  have h1 : (0 : Int) ≤ (a : Int) := by omega
  have h2 : (a : Int) < 32 := by omega
  unfold execOp
  simp only [ho, hx, hy]
  go_simp
theorem b_ia_b16 {n a : Nat} (ha : a < 16) (w : World) (ho : o.op = .indexAddr 35 x y := by rfl) (hx : ρ x = D n := by kernel_rfl) (hy : ρ y = Nv .i64 a := by kernel_rfl) : (execOp ρ o).run Tryd.prog w = .ok (.value (E n a)) w := by
  have h1 : (0 : Int) ≤ (a : Int) := by omega
  have h2 : (a : Int) < 16 := by omega
  unfold execOp
  simp only [ho, hx, hy]
  go_simp
theorem b_ia_b12 {n a : Nat} (ha : a < 12) (w : World) (ho : o.op = .indexAddr 24 x y := by rfl) (hx : ρ x = D n := by kernel_rfl) (hy : ρ y = Nv .i64 a := by kernel_rfl) : (execOp ρ o).run Tryd.prog w = .ok (.value (E n a)) w := by
  have h1 : (0 : Int) ≤ (a : Int) := by omega
  have h2 : (a : Int) < 12 := by omega
  unfold execOp
  simp only [ho, hx, hy]
  go_simp
theorem b_ia_l3 {n a : Nat} (ha : a < 3) (w : World) (ho : o.op = .indexAddr 55 x y := by rfl) (hx : ρ x = D n := by kernel_rfl) (hy : ρ y = Nv .i64 a := by kernel_rfl) : (execOp ρ o).run Tryd.prog w = .ok (.value (E n a)) w := by
  have h1 : (0 : Int) ≤ (a : Int) := by omega
  have h2 : (a : Int) < 3 := by omega
  unfold execOp
  simp only [ho, hx, hy]
  go_simp
theorem b_ia_n40 {n a : Nat} (ha : a < 40) (w : World) (ho : o.op = .indexAddr 67 x y := by rfl) (hx : ρ x = D n := by kernel_rfl) (hy : ρ y = Nv .i64 a := by kernel_rfl) : (execOp ρ o).run Tryd.prog w = .ok (.value (E n a)) w := by
  have h1 : (0 : Int) ≤ (a : Int) := by omega
  have h2 : (a : Int) < 40 := by omega
  unfold execOp
  simp only [ho, hx, hy]
  go_simp
theorem b_ia_w5 {n a : Nat} (ha : a < 5) (w : World) (ho : o.op = .indexAddr 77 x y := by rfl) (hx : ρ x = D n := by kernel_rfl) (hy : ρ y = Nv .i64 a := by kernel_rfl) : (execOp ρ o).run Tryd.prog w = .ok (.value (E n a)) w := by
  have h1 : (0 : Int) ≤ (a : Int) := by omega
  have h2 : (a : Int) < 5 := by omega
  unfold execOp
  simp only [ho, hx, hy]
  go_simp
theorem b_ia_k2 {n a : Nat} (ha : a < 2) (w : World) (ho : o.op = .indexAddr 57 x y := by rfl) (hx : ρ x = D n := by kernel_rfl) (hy : ρ y = Nv .i64 a := by kernel_rfl) : (execOp ρ o).run Tryd.prog w = .ok (.value (E n a)) w := by
  have h1 : (0 : Int) ≤ (a : Int) := by omega
  have h2 : (a : Int) < 2 := by omega
  unfold execOp
  simp only [ho, hx, hy]
  go_simp
theorem run_add (x y c : Nat) (hc : c ≤ 1) (w : World) :
    (callFunc 43 #[.int .u64 x, .int .u64 y, .int .u64 c]).run Tryd.prog w =
      .ok (.value (.tuple #[.int .u64 ((x + y + c) % 2 ^ 64 : Nat), .int .u64 ((x + y + c) / 2 ^ 64 : Nat)])) w := by
  rw [run_callFunc_extern Tryd.func43 (by kernel_rfl) (by kernel_rfl) (by kernel_rfl) (e := add64Entry) (by kernel_rfl), run_add64 x y c (by omega) (by omega) (by omega) (by omega)]
  simp only [Result.andThen]
  congr 5 <;> omega
theorem add_lit (x y s o : Nat) (hs : s = (x + y) % 2 ^ 64) (ho : o = (x + y) / 2 ^ 64) (w : World) : (callFunc 43 #[.int .u64 x, .int .u64 y, .int .u64 0]).run Tryd.prog w =
      .ok (.value (.tuple #[.int .u64 s, .int .u64 o])) w := by
  have := run_add x y 0 (by omega) w
  rw [hs, ho]; exact this
theorem b_add64 {a b c s d : Nat} (hc : c ≤ 1) (hs : s = (a + b + c) % 2 ^ 64) (hd : d = (a + b + c) / 2 ^ 64) (w : World) (ho : o.op = .call { callee := .value (.func 43), args := #[x, y, z], argTypes := #[38, 38, 38] } := by rfl) (hf : ρ (.func 43) = .func (.func 43) #[] #[] := by kernel_rfl) (hx : ρ x = Nv .u64 a := by kernel_rfl) (hy : ρ y = Nv .u64 b := by kernel_rfl) (hz : ρ z = Nv .u64 c := by kernel_rfl) : (execOp ρ o).run Tryd.prog w = .ok (.value (.tuple #[Nv .u64 s, Nv .u64 d])) w := by
  have h := run_add a b c hc w
  rw [← hs, ← hd] at h
  unfold execOp
  simp only [ho]
  go_simp
end
end Go.Proofs.YtanahjoiilfcbaaDoor

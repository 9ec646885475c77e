/- KdfSalt's walk. -/
import Derived.Test.YtjnjedannpnjiaaDoorXn
import Derived.Test.YtjnjedannpnjiaaDoorMx
namespace Go.Proofs.YtjnjedannpnjiaaDoor
open Go.RowKit

theorem rds_zeros {w : World} {b n : Nat} {t : TypeId} (h : Blk w b (vals .u8 n (fun _ => 0)) t) : Rds w (some ⟨b, 0, none⟩) (List.replicate n 0) := rds_blk h _ fun i x hx => by
  rw [List.getElem?_replicate] at hx
  split at hx
  · rename_i hi
    obtain rfl := Option.some.inj hx
    rw [vals_get _ _ _ _ hi]
  · cases hx
def saOp0 : Oper := { dst := some 18, op := Op.move (Operand.tmp 7), type := 4, pos := "law.go:93", after := #[], guard := none }
def saOp1 : Oper := { dst := some 19, op := Op.move (Operand.tmp 18), type := 4, pos := "law.go:93", after := #[{ on := 0, ground := Ground.data }], guard := none }
def saOp2 : Oper := { dst := some 20, op := Op.move (Operand.tmp 0), type := 23, pos := "law.go:93", after := #[{ on := 1, ground := Ground.guard }], guard := some (1, true) }
def saOp3 : Oper := { dst := some 21, op := Op.move (Operand.tmp 1), type := 23, pos := "law.go:93", after := #[{ on := 1, ground := Ground.guard }], guard := some (1, true) }
def saOp4 : Oper := { dst := some 22, op := Op.call { callee := Callee.value (Operand.func 12), args := #[Operand.tmp 20, Operand.tmp 21], argTypes := #[23, 23] }, type := 27, pos := "law.go:93", after := #[{ on := 2, ground := Ground.data }, { on := 3, ground := Ground.data }, { on := 1, ground := Ground.chain }, { on := 1, ground := Ground.guard }], guard := some (1, true) }
def saOp5 : Oper := { dst := some 23, op := Op.move (Operand.tmp 0), type := 23, pos := "law.go:93", after := #[{ on := 1, ground := Ground.guard }], guard := some (1, true) }
def saOp6 : Oper := { dst := some 24, op := Op.move (Operand.tmp 1), type := 23, pos := "law.go:93", after := #[{ on := 1, ground := Ground.guard }], guard := some (1, true) }
def saOp7 : Oper := { dst := some 25, op := Op.buildSlice 36 1 #[(0, Operand.tmp 24)], type := 36, pos := "law.go:93", after := #[{ on := 6, ground := Ground.data }, { on := 1, ground := Ground.guard }], guard := some (1, true) }
def saOp8 : Oper := { dst := some 26, op := Op.call { callee := Callee.value (Operand.func 14), args := #[Operand.tmp 23, Operand.tmp 25], argTypes := #[23, 36] }, type := 27, pos := "law.go:93", after := #[{ on := 5, ground := Ground.data }, { on := 7, ground := Ground.data }, { on := 4, ground := Ground.chain }, { on := 1, ground := Ground.guard }], guard := some (1, true) }
def saOp9 : Oper := { dst := some 27, op := Op.binOp BinOp.eql 27 (Operand.tmp 22) (Operand.tmp 26) 27, type := 4, pos := "law.go:93", after := #[{ on := 4, ground := Ground.data }, { on := 8, ground := Ground.data }, { on := 1, ground := Ground.guard }], guard := some (1, true) }
def saOp10 : Oper := { dst := some 28, op := Op.pick (Operand.tmp 19) (Operand.tmp 27) (Operand.const (Value.bool false)), type := 4, pos := "law.go:93", after := #[{ on := 1, ground := Ground.data }, { on := 9, ground := Ground.data }], guard := none }
def saOp11 : Oper := { dst := some 29, op := Op.move (Operand.tmp 28), type := 4, pos := "law.go:93", after := #[{ on := 10, ground := Ground.data }, { on := 8, ground := Ground.chain }], guard := none }
def saOp12 : Oper := { dst := some 30, op := Op.move (Operand.tmp 1), type := 23, pos := "law.go:93", after := #[{ on := 11, ground := Ground.guard }], guard := some (11, true) }
def saOp13 : Oper := { dst := some 31, op := Op.call { callee := Callee.value (Operand.func 12), args := #[Operand.const (Value.slice none 0 0), Operand.tmp 30], argTypes := #[23, 23] }, type := 27, pos := "law.go:93", after := #[{ on := 12, ground := Ground.data }, { on := 11, ground := Ground.chain }, { on := 11, ground := Ground.guard }], guard := some (11, true) }
def saOp14 : Oper := { dst := some 32, op := Op.move (Operand.tmp 2), type := 5, pos := "law.go:93", after := #[{ on := 11, ground := Ground.guard }], guard := some (11, true) }
def saOp15 : Oper := { dst := some 33, op := Op.convert 5 3 (Operand.tmp 32), type := 3, pos := "law.go:93", after := #[{ on := 14, ground := Ground.data }, { on := 11, ground := Ground.guard }], guard := some (11, true) }
def saOp16 : Oper := { dst := some 34, op := Op.binOp BinOp.rem 3 (Operand.tmp 33) (Operand.const (Value.int IntKind.i64 129)) 3, type := 3, pos := "law.go:93", after := #[{ on := 15, ground := Ground.data }, { on := 11, ground := Ground.guard }], guard := some (11, true) }
def saOp17 : Oper := { dst := some 35, op := Op.makeSlice 23 (Operand.tmp 34) (Operand.tmp 34), type := 23, pos := "law.go:93", after := #[{ on := 16, ground := Ground.data }, { on := 16, ground := Ground.data }, { on := 11, ground := Ground.guard }], guard := some (11, true) }
def saOp18 : Oper := { dst := some 36, op := Op.move (Operand.tmp 1), type := 23, pos := "law.go:93", after := #[{ on := 11, ground := Ground.guard }], guard := some (11, true) }
def saOp19 : Oper := { dst := some 37, op := Op.call { callee := Callee.value (Operand.func 12), args := #[Operand.tmp 35, Operand.tmp 36], argTypes := #[23, 23] }, type := 27, pos := "law.go:93", after := #[{ on := 17, ground := Ground.data }, { on := 18, ground := Ground.data }, { on := 13, ground := Ground.chain }, { on := 11, ground := Ground.guard }], guard := some (11, true) }
def saOp20 : Oper := { dst := some 38, op := Op.binOp BinOp.eql 27 (Operand.tmp 31) (Operand.tmp 37) 27, type := 4, pos := "law.go:93", after := #[{ on := 13, ground := Ground.data }, { on := 19, ground := Ground.data }, { on := 11, ground := Ground.guard }], guard := some (11, true) }
def saOp21 : Oper := { dst := some 39, op := Op.pick (Operand.tmp 29) (Operand.tmp 38) (Operand.const (Value.bool false)), type := 4, pos := "law.go:93", after := #[{ on := 11, ground := Ground.data }, { on := 20, ground := Ground.data }], guard := none }
def saOp22 : Oper := { dst := some 6, op := Op.assign (Operand.tmp 39), type := 4, pos := "law.go:93", after := #[{ on := 21, ground := Ground.data }, { on := 19, ground := Ground.chain }, { on := 0, ground := Ground.phase }, { on := 1, ground := Ground.phase }, { on := 2, ground := Ground.phase }, { on := 3, ground := Ground.phase }, { on := 4, ground := Ground.phase }, { on := 5, ground := Ground.phase }, { on := 6, ground := Ground.phase }, { on := 7, ground := Ground.phase }, { on := 8, ground := Ground.phase }, { on := 9, ground := Ground.phase }, { on := 10, ground := Ground.phase }, { on := 11, ground := Ground.phase }, { on := 12, ground := Ground.phase }, { on := 13, ground := Ground.phase }, { on := 14, ground := Ground.phase }, { on := 15, ground := Ground.phase }, { on := 16, ground := Ground.phase }, { on := 17, ground := Ground.phase }, { on := 18, ground := Ground.phase }, { on := 19, ground := Ground.phase }, { on := 20, ground := Ground.phase }, { on := 21, ground := Ground.phase }], guard := none }
def saOps : Array Oper := #[saOp0, saOp1, saOp2, saOp3, saOp4, saOp5, saOp6, saOp7, saOp8, saOp9, saOp10, saOp11, saOp12, saOp13, saOp14, saOp15, saOp16, saOp17, saOp18, saOp19, saOp20, saOp21, saOp22]
set_option maxRecDepth 100000 in
set_option maxHeartbeats 1000000 in
theorem sa_0 (Q : Exit → Act → World → Prop) (hQ : ∀ c a w n v, Q (.panic c) (a.put (some n) v) w → Q (.panic c) a w) (u0 : World) (z3 z4 z5 z6 z8 z9 z10 z11 z12 z13 z14 z15 z16 z17 z18 z19 z20 z21 z22 z23 z24 z25 z26 z27 z28 z29 z30 z31 z32 z33 z34 z35 z36 z37 z38 z39 : Value) (h0 : SumOk) (A C : Option Addr) (k u : List Nat) (ca cc z m : Nat) (f g : Nat → Nat) (hf : Hid (f = mc k u)) (hg : Hid (g = mc [] u)) (hg2 : Hid (g = mc (List.replicate m 0) u)) (hm : Hid (m ≤ 128)) (hw1 : wrap64 (z : Int) = (z : Int)) (hw2 : (z : Int).tmod 129 = (m : Int)) (hw3 : IntKind.i64.wrap (z : Int) = (z : Int)) (HG : Glob u0) (HA : Rds u0 A k) (hca : k.length ≤ ca) (hk : ∀ x ∈ k, x < 256) (HU : Rds u0 C u) (hcc : u.length ≤ cc) (hu : ∀ x ∈ u, x < 256) (hs : k.length < 2 ^ 29) (hs2 : u.length < 2 ^ 29) (H : ∀ (bp : Nat) (bm : Nat) (w : World), Below u0.heap.size u0 w → Blk w bp #[.slice C u.length cc] 23 → Blk w bm (vals .u8 m (fun _ => 0)) 5 → Q .normal { tmps := List.toArray ((.slice A k.length ca) :: (.slice C u.length cc) :: (.int .u8 (z : Int)) :: z3 :: z4 :: z5 :: (.bool true) :: (.bool true) :: z8 :: z9 :: z10 :: z11 :: z12 :: z13 :: z14 :: z15 :: z16 :: z17 :: (.bool true) :: (.bool true) :: (.slice A k.length ca) :: (.slice C u.length cc) :: (.agg (vals .u8 64 f)) :: (.slice A k.length ca) :: (.slice C u.length cc) :: (.slice (some ⟨bp, 0, none⟩) 1 1) :: (.agg (vals .u8 64 f)) :: (.bool true) :: (.bool true) :: (.bool true) :: (.slice C u.length cc) :: (.agg (vals .u8 64 g)) :: (.int .u8 (z : Int)) :: (.int .i64 (z : Int)) :: (.int .i64 (m : Int)) :: (.slice (some ⟨bm, 0, none⟩) m m) :: (.slice C u.length cc) :: (.agg (vals .u8 64 g)) :: (.bool true) :: (.bool true) :: []), defers := [] } w) (bp : Nat) (bm : Nat) (w : World) (hS : Below u0.heap.size u0 w) (pb : Blk w bp #[.slice C u.length cc] 23) (mb : Blk w bm (vals .u8 m (fun _ => 0)) 5) :
    wpAnyH Tryd.prog .any saOps Q (fun w' => Below u0.heap.size u0 w') 0 (List.toArray (true :: true :: true :: true :: true :: true :: true :: true :: true :: true :: true :: true :: true :: true :: true :: true :: true :: true :: true :: true :: true :: true :: true :: [])) { tmps := List.toArray ((.slice A k.length ca) :: (.slice C u.length cc) :: (.int .u8 (z : Int)) :: z3 :: z4 :: z5 :: (.bool true) :: (.bool true) :: z8 :: z9 :: z10 :: z11 :: z12 :: z13 :: z14 :: z15 :: z16 :: z17 :: (.bool true) :: (.bool true) :: (.slice A k.length ca) :: (.slice C u.length cc) :: (.agg (vals .u8 64 f)) :: (.slice A k.length ca) :: (.slice C u.length cc) :: (.slice (some ⟨bp, 0, none⟩) 1 1) :: (.agg (vals .u8 64 f)) :: (.bool true) :: (.bool true) :: (.bool true) :: (.slice C u.length cc) :: (.agg (vals .u8 64 g)) :: (.int .u8 (z : Int)) :: (.int .i64 (z : Int)) :: (.int .i64 (m : Int)) :: (.slice (some ⟨bm, 0, none⟩) m m) :: (.slice C u.length cc) :: (.agg (vals .u8 64 g)) :: (.bool true) :: (.bool true) :: []), defers := [] } w := by
  have _ := hQ
  have _ := u0
  have _ := z3
  have _ := z4
  have _ := z5
  have _ := z6
  have _ := z8
  have _ := z9
  have _ := z10
  have _ := z11
  have _ := z12
  have _ := z13
  have _ := z14
  have _ := z15
  have _ := z16
  have _ := z17
  have _ := z18
  have _ := z19
  have _ := z20
  have _ := z21
  have _ := z22
  have _ := z23
  have _ := z24
  have _ := z25
  have _ := z26
  have _ := z27
  have _ := z28
  have _ := z29
  have _ := z30
  have _ := z31
  have _ := z32
  have _ := z33
  have _ := z34
  have _ := z35
  have _ := z36
  have _ := z37
  have _ := z38
  have _ := z39
  have _ := h0
  have _ := A
  have _ := C
  have _ := k
  have _ := u
  have _ := ca
  have _ := cc
  have _ := z
  have _ := m
  have _ := f
  have _ := g
  have _ := hf
  have _ := hg
  have _ := hg2
  have _ := hm
  have _ := hw1
  have _ := hw2
  have _ := hw3
  have _ := HG
  have _ := HA
  have _ := hca
  have _ := hk
  have _ := HU
  have _ := hcc
  have _ := hu
  have _ := hs
  have _ := hs2
  exact wpAnyH_done (by kernel_rfl) (H bp bm w hS pb mb) _
set_option maxRecDepth 100000 in
set_option maxHeartbeats 1000000 in
theorem sa_1 (Q : Exit → Act → World → Prop) (hQ : ∀ c a w n v, Q (.panic c) (a.put (some n) v) w → Q (.panic c) a w) (u0 : World) (z3 z4 z5 z6 z8 z9 z10 z11 z12 z13 z14 z15 z16 z17 z18 z19 z20 z21 z22 z23 z24 z25 z26 z27 z28 z29 z30 z31 z32 z33 z34 z35 z36 z37 z38 z39 : Value) (h0 : SumOk) (A C : Option Addr) (k u : List Nat) (ca cc z m : Nat) (f g : Nat → Nat) (hf : Hid (f = mc k u)) (hg : Hid (g = mc [] u)) (hg2 : Hid (g = mc (List.replicate m 0) u)) (hm : Hid (m ≤ 128)) (hw1 : wrap64 (z : Int) = (z : Int)) (hw2 : (z : Int).tmod 129 = (m : Int)) (hw3 : IntKind.i64.wrap (z : Int) = (z : Int)) (HG : Glob u0) (HA : Rds u0 A k) (hca : k.length ≤ ca) (hk : ∀ x ∈ k, x < 256) (HU : Rds u0 C u) (hcc : u.length ≤ cc) (hu : ∀ x ∈ u, x < 256) (hs : k.length < 2 ^ 29) (hs2 : u.length < 2 ^ 29) (H : ∀ (bp : Nat) (bm : Nat) (w : World), Below u0.heap.size u0 w → Blk w bp #[.slice C u.length cc] 23 → Blk w bm (vals .u8 m (fun _ => 0)) 5 → Q .normal { tmps := List.toArray ((.slice A k.length ca) :: (.slice C u.length cc) :: (.int .u8 (z : Int)) :: z3 :: z4 :: z5 :: (.bool true) :: (.bool true) :: z8 :: z9 :: z10 :: z11 :: z12 :: z13 :: z14 :: z15 :: z16 :: z17 :: (.bool true) :: (.bool true) :: (.slice A k.length ca) :: (.slice C u.length cc) :: (.agg (vals .u8 64 f)) :: (.slice A k.length ca) :: (.slice C u.length cc) :: (.slice (some ⟨bp, 0, none⟩) 1 1) :: (.agg (vals .u8 64 f)) :: (.bool true) :: (.bool true) :: (.bool true) :: (.slice C u.length cc) :: (.agg (vals .u8 64 g)) :: (.int .u8 (z : Int)) :: (.int .i64 (z : Int)) :: (.int .i64 (m : Int)) :: (.slice (some ⟨bm, 0, none⟩) m m) :: (.slice C u.length cc) :: (.agg (vals .u8 64 g)) :: (.bool true) :: (.bool true) :: []), defers := [] } w) (bp : Nat) (bm : Nat) (w : World) (hS : Below u0.heap.size u0 w) (pb : Blk w bp #[.slice C u.length cc] 23) (mb : Blk w bm (vals .u8 m (fun _ => 0)) 5) :
    wpAnyH Tryd.prog .any saOps Q (fun w' => Below u0.heap.size u0 w') 4 (List.toArray (true :: true :: true :: true :: true :: true :: true :: true :: true :: true :: true :: true :: true :: true :: true :: true :: true :: true :: true :: false :: false :: false :: false :: [])) { tmps := List.toArray ((.slice A k.length ca) :: (.slice C u.length cc) :: (.int .u8 (z : Int)) :: z3 :: z4 :: z5 :: z6 :: (.bool true) :: z8 :: z9 :: z10 :: z11 :: z12 :: z13 :: z14 :: z15 :: z16 :: z17 :: (.bool true) :: (.bool true) :: (.slice A k.length ca) :: (.slice C u.length cc) :: (.agg (vals .u8 64 f)) :: (.slice A k.length ca) :: (.slice C u.length cc) :: (.slice (some ⟨bp, 0, none⟩) 1 1) :: (.agg (vals .u8 64 f)) :: (.bool true) :: (.bool true) :: (.bool true) :: (.slice C u.length cc) :: (.agg (vals .u8 64 g)) :: (.int .u8 (z : Int)) :: (.int .i64 (z : Int)) :: (.int .i64 (m : Int)) :: (.slice (some ⟨bm, 0, none⟩) m m) :: (.slice C u.length cc) :: z37 :: z38 :: z39 :: []), defers := [] } w := by
  refine wpAnyH_ready (rs := [19]) (by kernel_rfl) (by simp) ?_
  refine AllReadyH.cons (o := saOp19) rfl (fun K hK => ?_) AllReadyH.nil
  unfold saOp19
  go_simp
  refine (ext_at g h0 (some ⟨bm, 0, none⟩) C (List.replicate m 0) u hg2.out m cc _ w (by rw [List.length_replicate]) (HG.low hS) (rds_zeros mb) (by rw [List.length_replicate]; exact Nat.le_refl _) (fun x hx => by rw [(List.mem_replicate.1 hx).2]; omega) (HU.low hS) hcc hu (by rw [List.length_replicate]; have := hm.out; omega) hs2).mono ?_
  rintro e x ⟨rfl, hb⟩
  dsimp only
  have hS' := keepCall hb rfl hS
  refine hK.out _ _ hS' (fun _ => ?_)
  clear hK K
  simp only [List.setIfInBounds_toArray, List.set_cons_zero, List.set_cons_succ]
  refine wpAnyH_take (i := 20) (oi := saOp20) (v := .bool true) rfl (by kernel_rfl) (by kernel_rfl) (by kernel_rfl) (fun _ _ _ => hQ _ _ _ _ _) (Or.inl ⟨by rfl, fun w hSw => by have hc := eq_self g w; unfold saOp20; go_simp⟩) hS' ?_
  try simp only [saOp20, Act.put, List.setIfInBounds_toArray, List.set_cons_zero, List.set_cons_succ]
  refine wpAnyH_take (i := 21) (oi := saOp21) (v := .bool true) rfl (by kernel_rfl) (by kernel_rfl) (by kernel_rfl) (fun _ _ _ => hQ _ _ _ _ _) (Or.inl ⟨by rfl, fun w hSw => by unfold saOp21; go_simp⟩) hS' ?_
  try simp only [saOp21, Act.put, List.setIfInBounds_toArray, List.set_cons_zero, List.set_cons_succ]
  refine wpAnyH_take (i := 22) (oi := saOp22) (v := .bool true) rfl (by kernel_rfl) (by kernel_rfl) (by kernel_rfl) (fun _ _ _ => hQ _ _ _ _ _) (Or.inl ⟨by rfl, fun w hSw => by unfold saOp22; go_simp⟩) hS' ?_
  try simp only [saOp22, Act.put, List.setIfInBounds_toArray, List.set_cons_zero, List.set_cons_succ]
  exact sa_0 Q hQ u0 z3 z4 z5 z6 z8 z9 z10 z11 z12 z13 z14 z15 z16 z17 z18 z19 z20 z21 z22 z23 z24 z25 z26 z27 z28 z29 z30 z31 z32 z33 z34 z35 z36 z37 z38 z39 h0 A C k u ca cc z m f g hf hg hg2 hm hw1 hw2 hw3 HG HA hca hk HU hcc hu hs hs2 H bp bm x hS' (pb.low hb) (mb.low hb)
set_option maxRecDepth 100000 in
set_option maxHeartbeats 1000000 in
theorem sa_2 (Q : Exit → Act → World → Prop) (hQ : ∀ c a w n v, Q (.panic c) (a.put (some n) v) w → Q (.panic c) a w) (u0 : World) (z3 z4 z5 z6 z8 z9 z10 z11 z12 z13 z14 z15 z16 z17 z18 z19 z20 z21 z22 z23 z24 z25 z26 z27 z28 z29 z30 z31 z32 z33 z34 z35 z36 z37 z38 z39 : Value) (h0 : SumOk) (A C : Option Addr) (k u : List Nat) (ca cc z m : Nat) (f g : Nat → Nat) (hf : Hid (f = mc k u)) (hg : Hid (g = mc [] u)) (hg2 : Hid (g = mc (List.replicate m 0) u)) (hm : Hid (m ≤ 128)) (hw1 : wrap64 (z : Int) = (z : Int)) (hw2 : (z : Int).tmod 129 = (m : Int)) (hw3 : IntKind.i64.wrap (z : Int) = (z : Int)) (HG : Glob u0) (HA : Rds u0 A k) (hca : k.length ≤ ca) (hk : ∀ x ∈ k, x < 256) (HU : Rds u0 C u) (hcc : u.length ≤ cc) (hu : ∀ x ∈ u, x < 256) (hs : k.length < 2 ^ 29) (hs2 : u.length < 2 ^ 29) (H : ∀ (bp : Nat) (bm : Nat) (w : World), Below u0.heap.size u0 w → Blk w bp #[.slice C u.length cc] 23 → Blk w bm (vals .u8 m (fun _ => 0)) 5 → Q .normal { tmps := List.toArray ((.slice A k.length ca) :: (.slice C u.length cc) :: (.int .u8 (z : Int)) :: z3 :: z4 :: z5 :: (.bool true) :: (.bool true) :: z8 :: z9 :: z10 :: z11 :: z12 :: z13 :: z14 :: z15 :: z16 :: z17 :: (.bool true) :: (.bool true) :: (.slice A k.length ca) :: (.slice C u.length cc) :: (.agg (vals .u8 64 f)) :: (.slice A k.length ca) :: (.slice C u.length cc) :: (.slice (some ⟨bp, 0, none⟩) 1 1) :: (.agg (vals .u8 64 f)) :: (.bool true) :: (.bool true) :: (.bool true) :: (.slice C u.length cc) :: (.agg (vals .u8 64 g)) :: (.int .u8 (z : Int)) :: (.int .i64 (z : Int)) :: (.int .i64 (m : Int)) :: (.slice (some ⟨bm, 0, none⟩) m m) :: (.slice C u.length cc) :: (.agg (vals .u8 64 g)) :: (.bool true) :: (.bool true) :: []), defers := [] } w) (bp : Nat) (bm : Nat) (w : World) (hS : Below u0.heap.size u0 w) (pb : Blk w bp #[.slice C u.length cc] 23) (mb : Blk w bm (vals .u8 m (fun _ => 0)) 5) :
    wpAnyH Tryd.prog .any saOps Q (fun w' => Below u0.heap.size u0 w') 5 (List.toArray (true :: true :: true :: true :: true :: true :: true :: true :: true :: true :: true :: true :: true :: false :: true :: true :: true :: true :: true :: false :: false :: false :: false :: [])) { tmps := List.toArray ((.slice A k.length ca) :: (.slice C u.length cc) :: (.int .u8 (z : Int)) :: z3 :: z4 :: z5 :: z6 :: (.bool true) :: z8 :: z9 :: z10 :: z11 :: z12 :: z13 :: z14 :: z15 :: z16 :: z17 :: (.bool true) :: (.bool true) :: (.slice A k.length ca) :: (.slice C u.length cc) :: (.agg (vals .u8 64 f)) :: (.slice A k.length ca) :: (.slice C u.length cc) :: (.slice (some ⟨bp, 0, none⟩) 1 1) :: (.agg (vals .u8 64 f)) :: (.bool true) :: (.bool true) :: (.bool true) :: (.slice C u.length cc) :: z31 :: (.int .u8 (z : Int)) :: (.int .i64 (z : Int)) :: (.int .i64 (m : Int)) :: (.slice (some ⟨bm, 0, none⟩) m m) :: (.slice C u.length cc) :: z37 :: z38 :: z39 :: []), defers := [] } w := by
  refine wpAnyH_ready (rs := [13]) (by kernel_rfl) (by simp) ?_
  refine AllReadyH.cons (o := saOp13) rfl (fun K hK => ?_) AllReadyH.nil
  unfold saOp13
  go_simp
  refine (ext_at g h0 none C [] u hg.out 0 cc _ w (by rfl) (HG.low hS) (Or.inl rfl) (Nat.le_refl _) (fun x hx => by cases hx) (HU.low hS) hcc hu (by decide) hs2).mono ?_
  rintro e x ⟨rfl, hb⟩
  dsimp only
  have hS' := keepCall hb rfl hS
  refine hK.out _ _ hS' (fun _ => ?_)
  clear hK K
  simp only [List.setIfInBounds_toArray, List.set_cons_zero, List.set_cons_succ]
  exact sa_1 Q hQ u0 z3 z4 z5 z6 z8 z9 z10 z11 z12 z13 z14 z15 z16 z17 z18 z19 z20 z21 z22 z23 z24 z25 z26 z27 z28 z29 z30 z31 z32 z33 z34 z35 z36 z37 z38 z39 h0 A C k u ca cc z m f g hf hg hg2 hm hw1 hw2 hw3 HG HA hca hk HU hcc hu hs hs2 H bp bm x hS' (pb.low hb) (mb.low hb)
set_option maxRecDepth 100000 in
set_option maxHeartbeats 1000000 in
theorem sa_3 (Q : Exit → Act → World → Prop) (hQ : ∀ c a w n v, Q (.panic c) (a.put (some n) v) w → Q (.panic c) a w) (u0 : World) (z3 z4 z5 z6 z8 z9 z10 z11 z12 z13 z14 z15 z16 z17 z18 z19 z20 z21 z22 z23 z24 z25 z26 z27 z28 z29 z30 z31 z32 z33 z34 z35 z36 z37 z38 z39 : Value) (h0 : SumOk) (A C : Option Addr) (k u : List Nat) (ca cc z m : Nat) (f g : Nat → Nat) (hf : Hid (f = mc k u)) (hg : Hid (g = mc [] u)) (hg2 : Hid (g = mc (List.replicate m 0) u)) (hm : Hid (m ≤ 128)) (hw1 : wrap64 (z : Int) = (z : Int)) (hw2 : (z : Int).tmod 129 = (m : Int)) (hw3 : IntKind.i64.wrap (z : Int) = (z : Int)) (HG : Glob u0) (HA : Rds u0 A k) (hca : k.length ≤ ca) (hk : ∀ x ∈ k, x < 256) (HU : Rds u0 C u) (hcc : u.length ≤ cc) (hu : ∀ x ∈ u, x < 256) (hs : k.length < 2 ^ 29) (hs2 : u.length < 2 ^ 29) (H : ∀ (bp : Nat) (bm : Nat) (w : World), Below u0.heap.size u0 w → Blk w bp #[.slice C u.length cc] 23 → Blk w bm (vals .u8 m (fun _ => 0)) 5 → Q .normal { tmps := List.toArray ((.slice A k.length ca) :: (.slice C u.length cc) :: (.int .u8 (z : Int)) :: z3 :: z4 :: z5 :: (.bool true) :: (.bool true) :: z8 :: z9 :: z10 :: z11 :: z12 :: z13 :: z14 :: z15 :: z16 :: z17 :: (.bool true) :: (.bool true) :: (.slice A k.length ca) :: (.slice C u.length cc) :: (.agg (vals .u8 64 f)) :: (.slice A k.length ca) :: (.slice C u.length cc) :: (.slice (some ⟨bp, 0, none⟩) 1 1) :: (.agg (vals .u8 64 f)) :: (.bool true) :: (.bool true) :: (.bool true) :: (.slice C u.length cc) :: (.agg (vals .u8 64 g)) :: (.int .u8 (z : Int)) :: (.int .i64 (z : Int)) :: (.int .i64 (m : Int)) :: (.slice (some ⟨bm, 0, none⟩) m m) :: (.slice C u.length cc) :: (.agg (vals .u8 64 g)) :: (.bool true) :: (.bool true) :: []), defers := [] } w) (bp : Nat) (w : World) (hS : Below u0.heap.size u0 w) (pb : Blk w bp #[.slice C u.length cc] 23) :
    wpAnyH Tryd.prog .any saOps Q (fun w' => Below u0.heap.size u0 w') 5 (List.toArray (true :: true :: true :: true :: true :: true :: true :: true :: true :: true :: true :: true :: true :: true :: true :: true :: true :: false :: true :: false :: false :: false :: false :: [])) { tmps := List.toArray ((.slice A k.length ca) :: (.slice C u.length cc) :: (.int .u8 (z : Int)) :: z3 :: z4 :: z5 :: z6 :: (.bool true) :: z8 :: z9 :: z10 :: z11 :: z12 :: z13 :: z14 :: z15 :: z16 :: z17 :: (.bool true) :: (.bool true) :: (.slice A k.length ca) :: (.slice C u.length cc) :: (.agg (vals .u8 64 f)) :: (.slice A k.length ca) :: (.slice C u.length cc) :: (.slice (some ⟨bp, 0, none⟩) 1 1) :: (.agg (vals .u8 64 f)) :: (.bool true) :: (.bool true) :: (.bool true) :: (.slice C u.length cc) :: (.agg (vals .u8 64 g)) :: (.int .u8 (z : Int)) :: (.int .i64 (z : Int)) :: (.int .i64 (m : Int)) :: z35 :: (.slice C u.length cc) :: z37 :: z38 :: z39 :: []), defers := [] } w := by
  refine wpAnyH_ready (rs := [17]) (by kernel_rfl) (by simp) ?_
  refine AllReadyH.cons (o := saOp17) rfl (fun K hK => ?_) AllReadyH.nil
  have hmk := make_bytes w m (by have := hm.out; omega)
  have hb := (Below.refl w.heap.size w).alloc (Nat.le_refl _) (.cells (vals .u8 m (fun _ => 0)) 5)
  have hS' := keepCall hb rfl hS
  obtain ⟨bm, ebm⟩ : ∃ b, b = w.heap.size := ⟨_, rfl⟩
  have mb : Blk (w.alloc (.cells (vals .u8 m (fun _ => 0)) 5)) bm (vals .u8 m (fun _ => 0)) 5 := by rw [ebm]; exact Blk.new w _ _
  unfold saOp17
  go_simp
  rw [← ebm]
  refine hK.out _ _ hS' (fun _ => ?_)
  clear hK K
  simp only [List.setIfInBounds_toArray, List.set_cons_zero, List.set_cons_succ]
  exact sa_1 Q hQ u0 z3 z4 z5 z6 z8 z9 z10 z11 z12 z13 z14 z15 z16 z17 z18 z19 z20 z21 z22 z23 z24 z25 z26 z27 z28 z29 z30 z31 z32 z33 z34 z35 z36 z37 z38 z39 h0 A C k u ca cc z m f g hf hg hg2 hm hw1 hw2 hw3 HG HA hca hk HU hcc hu hs hs2 H bp bm (w.alloc (.cells (vals .u8 m (fun _ => 0)) 5)) hS' (pb.low hb) mb
set_option maxRecDepth 100000 in
set_option maxHeartbeats 1000000 in
theorem sa_4 (Q : Exit → Act → World → Prop) (hQ : ∀ c a w n v, Q (.panic c) (a.put (some n) v) w → Q (.panic c) a w) (u0 : World) (z3 z4 z5 z6 z8 z9 z10 z11 z12 z13 z14 z15 z16 z17 z18 z19 z20 z21 z22 z23 z24 z25 z26 z27 z28 z29 z30 z31 z32 z33 z34 z35 z36 z37 z38 z39 : Value) (h0 : SumOk) (A C : Option Addr) (k u : List Nat) (ca cc z m : Nat) (f g : Nat → Nat) (hf : Hid (f = mc k u)) (hg : Hid (g = mc [] u)) (hg2 : Hid (g = mc (List.replicate m 0) u)) (hm : Hid (m ≤ 128)) (hw1 : wrap64 (z : Int) = (z : Int)) (hw2 : (z : Int).tmod 129 = (m : Int)) (hw3 : IntKind.i64.wrap (z : Int) = (z : Int)) (HG : Glob u0) (HA : Rds u0 A k) (hca : k.length ≤ ca) (hk : ∀ x ∈ k, x < 256) (HU : Rds u0 C u) (hcc : u.length ≤ cc) (hu : ∀ x ∈ u, x < 256) (hs : k.length < 2 ^ 29) (hs2 : u.length < 2 ^ 29) (H : ∀ (bp : Nat) (bm : Nat) (w : World), Below u0.heap.size u0 w → Blk w bp #[.slice C u.length cc] 23 → Blk w bm (vals .u8 m (fun _ => 0)) 5 → Q .normal { tmps := List.toArray ((.slice A k.length ca) :: (.slice C u.length cc) :: (.int .u8 (z : Int)) :: z3 :: z4 :: z5 :: (.bool true) :: (.bool true) :: z8 :: z9 :: z10 :: z11 :: z12 :: z13 :: z14 :: z15 :: z16 :: z17 :: (.bool true) :: (.bool true) :: (.slice A k.length ca) :: (.slice C u.length cc) :: (.agg (vals .u8 64 f)) :: (.slice A k.length ca) :: (.slice C u.length cc) :: (.slice (some ⟨bp, 0, none⟩) 1 1) :: (.agg (vals .u8 64 f)) :: (.bool true) :: (.bool true) :: (.bool true) :: (.slice C u.length cc) :: (.agg (vals .u8 64 g)) :: (.int .u8 (z : Int)) :: (.int .i64 (z : Int)) :: (.int .i64 (m : Int)) :: (.slice (some ⟨bm, 0, none⟩) m m) :: (.slice C u.length cc) :: (.agg (vals .u8 64 g)) :: (.bool true) :: (.bool true) :: []), defers := [] } w) (bp : Nat) (w : World) (hS : Below u0.heap.size u0 w) (pb : Blk w bp #[.slice C u.length cc] 23) :
    wpAnyH Tryd.prog .any saOps Q (fun w' => Below u0.heap.size u0 w') 6 (List.toArray (true :: true :: true :: true :: true :: true :: true :: true :: true :: true :: true :: true :: true :: false :: true :: true :: true :: false :: true :: false :: false :: false :: false :: [])) { tmps := List.toArray ((.slice A k.length ca) :: (.slice C u.length cc) :: (.int .u8 (z : Int)) :: z3 :: z4 :: z5 :: z6 :: (.bool true) :: z8 :: z9 :: z10 :: z11 :: z12 :: z13 :: z14 :: z15 :: z16 :: z17 :: (.bool true) :: (.bool true) :: (.slice A k.length ca) :: (.slice C u.length cc) :: (.agg (vals .u8 64 f)) :: (.slice A k.length ca) :: (.slice C u.length cc) :: (.slice (some ⟨bp, 0, none⟩) 1 1) :: (.agg (vals .u8 64 f)) :: (.bool true) :: (.bool true) :: (.bool true) :: (.slice C u.length cc) :: z31 :: (.int .u8 (z : Int)) :: (.int .i64 (z : Int)) :: (.int .i64 (m : Int)) :: z35 :: (.slice C u.length cc) :: z37 :: z38 :: z39 :: []), defers := [] } w := by
  refine wpAnyH_ready (rs := [13, 17]) (by kernel_rfl) (by simp) ?_
  refine AllReadyH.cons (o := saOp13) rfl (fun K hK => ?_) ?_
  · skip
    unfold saOp13
    go_simp
    refine (ext_at g h0 none C [] u hg.out 0 cc _ w (by rfl) (HG.low hS) (Or.inl rfl) (Nat.le_refl _) (fun x hx => by cases hx) (HU.low hS) hcc hu (by decide) hs2).mono ?_
    rintro e x ⟨rfl, hb⟩
    dsimp only
    have hS' := keepCall hb rfl hS
    refine hK.out _ _ hS' (fun _ => ?_)
    clear hK K
    simp only [List.setIfInBounds_toArray, List.set_cons_zero, List.set_cons_succ]
    exact sa_3 Q hQ u0 z3 z4 z5 z6 z8 z9 z10 z11 z12 z13 z14 z15 z16 z17 z18 z19 z20 z21 z22 z23 z24 z25 z26 z27 z28 z29 z30 z31 z32 z33 z34 z35 z36 z37 z38 z39 h0 A C k u ca cc z m f g hf hg hg2 hm hw1 hw2 hw3 HG HA hca hk HU hcc hu hs hs2 H bp x hS' (pb.low hb)
  · refine AllReadyH.cons (o := saOp17) rfl (fun K hK => ?_) AllReadyH.nil
    have hmk := make_bytes w m (by have := hm.out; omega)
    have hb := (Below.refl w.heap.size w).alloc (Nat.le_refl _) (.cells (vals .u8 m (fun _ => 0)) 5)
    have hS' := keepCall hb rfl hS
    obtain ⟨bm, ebm⟩ : ∃ b, b = w.heap.size := ⟨_, rfl⟩
    have mb : Blk (w.alloc (.cells (vals .u8 m (fun _ => 0)) 5)) bm (vals .u8 m (fun _ => 0)) 5 := by rw [ebm]; exact Blk.new w _ _
    unfold saOp17
    go_simp
    rw [← ebm]
    refine hK.out _ _ hS' (fun _ => ?_)
    clear hK K
    simp only [List.setIfInBounds_toArray, List.set_cons_zero, List.set_cons_succ]
    exact sa_2 Q hQ u0 z3 z4 z5 z6 z8 z9 z10 z11 z12 z13 z14 z15 z16 z17 z18 z19 z20 z21 z22 z23 z24 z25 z26 z27 z28 z29 z30 z31 z32 z33 z34 z35 z36 z37 z38 z39 h0 A C k u ca cc z m f g hf hg hg2 hm hw1 hw2 hw3 HG HA hca hk HU hcc hu hs hs2 H bp bm (w.alloc (.cells (vals .u8 m (fun _ => 0)) 5)) hS' (pb.low hb) mb
set_option maxRecDepth 100000 in
set_option maxHeartbeats 1000000 in
theorem sa_5 (Q : Exit → Act → World → Prop) (hQ : ∀ c a w n v, Q (.panic c) (a.put (some n) v) w → Q (.panic c) a w) (u0 : World) (z3 z4 z5 z6 z8 z9 z10 z11 z12 z13 z14 z15 z16 z17 z18 z19 z20 z21 z22 z23 z24 z25 z26 z27 z28 z29 z30 z31 z32 z33 z34 z35 z36 z37 z38 z39 : Value) (h0 : SumOk) (A C : Option Addr) (k u : List Nat) (ca cc z m : Nat) (f g : Nat → Nat) (hf : Hid (f = mc k u)) (hg : Hid (g = mc [] u)) (hg2 : Hid (g = mc (List.replicate m 0) u)) (hm : Hid (m ≤ 128)) (hw1 : wrap64 (z : Int) = (z : Int)) (hw2 : (z : Int).tmod 129 = (m : Int)) (hw3 : IntKind.i64.wrap (z : Int) = (z : Int)) (HG : Glob u0) (HA : Rds u0 A k) (hca : k.length ≤ ca) (hk : ∀ x ∈ k, x < 256) (HU : Rds u0 C u) (hcc : u.length ≤ cc) (hu : ∀ x ∈ u, x < 256) (hs : k.length < 2 ^ 29) (hs2 : u.length < 2 ^ 29) (H : ∀ (bp : Nat) (bm : Nat) (w : World), Below u0.heap.size u0 w → Blk w bp #[.slice C u.length cc] 23 → Blk w bm (vals .u8 m (fun _ => 0)) 5 → Q .normal { tmps := List.toArray ((.slice A k.length ca) :: (.slice C u.length cc) :: (.int .u8 (z : Int)) :: z3 :: z4 :: z5 :: (.bool true) :: (.bool true) :: z8 :: z9 :: z10 :: z11 :: z12 :: z13 :: z14 :: z15 :: z16 :: z17 :: (.bool true) :: (.bool true) :: (.slice A k.length ca) :: (.slice C u.length cc) :: (.agg (vals .u8 64 f)) :: (.slice A k.length ca) :: (.slice C u.length cc) :: (.slice (some ⟨bp, 0, none⟩) 1 1) :: (.agg (vals .u8 64 f)) :: (.bool true) :: (.bool true) :: (.bool true) :: (.slice C u.length cc) :: (.agg (vals .u8 64 g)) :: (.int .u8 (z : Int)) :: (.int .i64 (z : Int)) :: (.int .i64 (m : Int)) :: (.slice (some ⟨bm, 0, none⟩) m m) :: (.slice C u.length cc) :: (.agg (vals .u8 64 g)) :: (.bool true) :: (.bool true) :: []), defers := [] } w) (bp : Nat) (w : World) (hS : Below u0.heap.size u0 w) (pb : Blk w bp #[.slice C u.length cc] 23) :
    wpAnyH Tryd.prog .any saOps Q (fun w' => Below u0.heap.size u0 w') 15 (List.toArray (true :: true :: true :: true :: true :: true :: true :: true :: false :: false :: false :: false :: false :: false :: false :: false :: false :: false :: false :: false :: false :: false :: false :: [])) { tmps := List.toArray ((.slice A k.length ca) :: (.slice C u.length cc) :: (.int .u8 (z : Int)) :: z3 :: z4 :: z5 :: z6 :: (.bool true) :: z8 :: z9 :: z10 :: z11 :: z12 :: z13 :: z14 :: z15 :: z16 :: z17 :: (.bool true) :: (.bool true) :: (.slice A k.length ca) :: (.slice C u.length cc) :: (.agg (vals .u8 64 f)) :: (.slice A k.length ca) :: (.slice C u.length cc) :: (.slice (some ⟨bp, 0, none⟩) 1 1) :: z26 :: z27 :: z28 :: z29 :: z30 :: z31 :: z32 :: z33 :: z34 :: z35 :: z36 :: z37 :: z38 :: z39 :: []), defers := [] } w := by
  refine wpAnyH_ready (rs := [8]) (by kernel_rfl) (by simp) ?_
  refine AllReadyH.cons (o := saOp8) rfl (fun K hK => ?_) AllReadyH.nil
  unfold saOp8
  go_simp
  refine (mac_onef f h0 A C k u hf.out ca cc bp 23 _ w (by rfl) pb (HG.low hS) (HA.low hS) hca hk (HU.low hS) hcc hu hs hs2).mono ?_
  rintro e x ⟨rfl, hb⟩
  dsimp only
  have hS' := keepCall hb rfl hS
  refine hK.out _ _ hS' (fun _ => ?_)
  clear hK K
  simp only [List.setIfInBounds_toArray, List.set_cons_zero, List.set_cons_succ]
  refine wpAnyH_take (i := 9) (oi := saOp9) (v := .bool true) rfl (by kernel_rfl) (by kernel_rfl) (by kernel_rfl) (fun _ _ _ => hQ _ _ _ _ _) (Or.inl ⟨by rfl, fun w hSw => by have hc := eq_self f w; unfold saOp9; go_simp⟩) hS' ?_
  try simp only [saOp9, Act.put, List.setIfInBounds_toArray, List.set_cons_zero, List.set_cons_succ]
  refine wpAnyH_take (i := 10) (oi := saOp10) (v := .bool true) rfl (by kernel_rfl) (by kernel_rfl) (by kernel_rfl) (fun _ _ _ => hQ _ _ _ _ _) (Or.inl ⟨by rfl, fun w hSw => by unfold saOp10; go_simp⟩) hS' ?_
  try simp only [saOp10, Act.put, List.setIfInBounds_toArray, List.set_cons_zero, List.set_cons_succ]
  refine wpAnyH_take (i := 11) (oi := saOp11) (v := .bool true) rfl (by kernel_rfl) (by kernel_rfl) (by kernel_rfl) (fun _ _ _ => hQ _ _ _ _ _) (Or.inl ⟨by rfl, fun w hSw => by unfold saOp11; go_simp⟩) hS' ?_
  try simp only [saOp11, Act.put, List.setIfInBounds_toArray, List.set_cons_zero, List.set_cons_succ]
  refine wpAnyH_take (i := 12) (oi := saOp12) (v := .slice C u.length cc) rfl (by kernel_rfl) (by kernel_rfl) (by kernel_rfl) (fun _ _ _ => hQ _ _ _ _ _) (Or.inl ⟨by rfl, fun w hSw => by unfold saOp12; go_simp⟩) hS' ?_
  try simp only [saOp12, Act.put, List.setIfInBounds_toArray, List.set_cons_zero, List.set_cons_succ]
  refine wpAnyH_take (i := 14) (oi := saOp14) (v := .int .u8 (z : Int)) rfl (by kernel_rfl) (by kernel_rfl) (by kernel_rfl) (fun _ _ _ => hQ _ _ _ _ _) (Or.inl ⟨by rfl, fun w hSw => by unfold saOp14; go_simp⟩) hS' ?_
  try simp only [saOp14, Act.put, List.setIfInBounds_toArray, List.set_cons_zero, List.set_cons_succ]
  refine wpAnyH_take (i := 15) (oi := saOp15) (v := .int .i64 (z : Int)) rfl (by kernel_rfl) (by kernel_rfl) (by kernel_rfl) (fun _ _ _ => hQ _ _ _ _ _) (Or.inl ⟨by rfl, fun w hSw => by have hc := hw3; unfold saOp15; go_simp⟩) hS' ?_
  try simp only [saOp15, Act.put, List.setIfInBounds_toArray, List.set_cons_zero, List.set_cons_succ]
  refine wpAnyH_take (i := 16) (oi := saOp16) (v := .int .i64 (m : Int)) rfl (by kernel_rfl) (by kernel_rfl) (by kernel_rfl) (fun _ _ _ => hQ _ _ _ _ _) (Or.inl ⟨by rfl, fun w hSw => by have hc := hw2; unfold saOp16; go_simp⟩) hS' ?_
  try simp only [saOp16, Act.put, List.setIfInBounds_toArray, List.set_cons_zero, List.set_cons_succ]
  refine wpAnyH_take (i := 18) (oi := saOp18) (v := .slice C u.length cc) rfl (by kernel_rfl) (by kernel_rfl) (by kernel_rfl) (fun _ _ _ => hQ _ _ _ _ _) (Or.inl ⟨by rfl, fun w hSw => by unfold saOp18; go_simp⟩) hS' ?_
  try simp only [saOp18, Act.put, List.setIfInBounds_toArray, List.set_cons_zero, List.set_cons_succ]
  exact sa_4 Q hQ u0 z3 z4 z5 z6 z8 z9 z10 z11 z12 z13 z14 z15 z16 z17 z18 z19 z20 z21 z22 z23 z24 z25 z26 z27 z28 z29 z30 z31 z32 z33 z34 z35 z36 z37 z38 z39 h0 A C k u ca cc z m f g hf hg hg2 hm hw1 hw2 hw3 HG HA hca hk HU hcc hu hs hs2 H bp x hS' (pb.low hb)
set_option maxRecDepth 100000 in
set_option maxHeartbeats 1000000 in
theorem sa_6 (Q : Exit → Act → World → Prop) (hQ : ∀ c a w n v, Q (.panic c) (a.put (some n) v) w → Q (.panic c) a w) (u0 : World) (z3 z4 z5 z6 z8 z9 z10 z11 z12 z13 z14 z15 z16 z17 z18 z19 z20 z21 z22 z23 z24 z25 z26 z27 z28 z29 z30 z31 z32 z33 z34 z35 z36 z37 z38 z39 : Value) (h0 : SumOk) (A C : Option Addr) (k u : List Nat) (ca cc z m : Nat) (f g : Nat → Nat) (hf : Hid (f = mc k u)) (hg : Hid (g = mc [] u)) (hg2 : Hid (g = mc (List.replicate m 0) u)) (hm : Hid (m ≤ 128)) (hw1 : wrap64 (z : Int) = (z : Int)) (hw2 : (z : Int).tmod 129 = (m : Int)) (hw3 : IntKind.i64.wrap (z : Int) = (z : Int)) (HG : Glob u0) (HA : Rds u0 A k) (hca : k.length ≤ ca) (hk : ∀ x ∈ k, x < 256) (HU : Rds u0 C u) (hcc : u.length ≤ cc) (hu : ∀ x ∈ u, x < 256) (hs : k.length < 2 ^ 29) (hs2 : u.length < 2 ^ 29) (H : ∀ (bp : Nat) (bm : Nat) (w : World), Below u0.heap.size u0 w → Blk w bp #[.slice C u.length cc] 23 → Blk w bm (vals .u8 m (fun _ => 0)) 5 → Q .normal { tmps := List.toArray ((.slice A k.length ca) :: (.slice C u.length cc) :: (.int .u8 (z : Int)) :: z3 :: z4 :: z5 :: (.bool true) :: (.bool true) :: z8 :: z9 :: z10 :: z11 :: z12 :: z13 :: z14 :: z15 :: z16 :: z17 :: (.bool true) :: (.bool true) :: (.slice A k.length ca) :: (.slice C u.length cc) :: (.agg (vals .u8 64 f)) :: (.slice A k.length ca) :: (.slice C u.length cc) :: (.slice (some ⟨bp, 0, none⟩) 1 1) :: (.agg (vals .u8 64 f)) :: (.bool true) :: (.bool true) :: (.bool true) :: (.slice C u.length cc) :: (.agg (vals .u8 64 g)) :: (.int .u8 (z : Int)) :: (.int .i64 (z : Int)) :: (.int .i64 (m : Int)) :: (.slice (some ⟨bm, 0, none⟩) m m) :: (.slice C u.length cc) :: (.agg (vals .u8 64 g)) :: (.bool true) :: (.bool true) :: []), defers := [] } w) (bp : Nat) (w : World) (hS : Below u0.heap.size u0 w) (pb : Blk w bp #[.slice C u.length cc] 23) :
    wpAnyH Tryd.prog .any saOps Q (fun w' => Below u0.heap.size u0 w') 16 (List.toArray (true :: true :: true :: true :: false :: true :: true :: true :: false :: false :: false :: false :: false :: false :: false :: false :: false :: false :: false :: false :: false :: false :: false :: [])) { tmps := List.toArray ((.slice A k.length ca) :: (.slice C u.length cc) :: (.int .u8 (z : Int)) :: z3 :: z4 :: z5 :: z6 :: (.bool true) :: z8 :: z9 :: z10 :: z11 :: z12 :: z13 :: z14 :: z15 :: z16 :: z17 :: (.bool true) :: (.bool true) :: (.slice A k.length ca) :: (.slice C u.length cc) :: z22 :: (.slice A k.length ca) :: (.slice C u.length cc) :: (.slice (some ⟨bp, 0, none⟩) 1 1) :: z26 :: z27 :: z28 :: z29 :: z30 :: z31 :: z32 :: z33 :: z34 :: z35 :: z36 :: z37 :: z38 :: z39 :: []), defers := [] } w := by
  refine wpAnyH_ready (rs := [4]) (by kernel_rfl) (by simp) ?_
  refine AllReadyH.cons (o := saOp4) rfl (fun K hK => ?_) AllReadyH.nil
  unfold saOp4
  go_simp
  refine (ext_at f h0 A C k u hf.out ca cc _ w (by rfl) (HG.low hS) (HA.low hS) hca hk (HU.low hS) hcc hu hs hs2).mono ?_
  rintro e x ⟨rfl, hb⟩
  dsimp only
  have hS' := keepCall hb rfl hS
  refine hK.out _ _ hS' (fun _ => ?_)
  clear hK K
  simp only [List.setIfInBounds_toArray, List.set_cons_zero, List.set_cons_succ]
  exact sa_5 Q hQ u0 z3 z4 z5 z6 z8 z9 z10 z11 z12 z13 z14 z15 z16 z17 z18 z19 z20 z21 z22 z23 z24 z25 z26 z27 z28 z29 z30 z31 z32 z33 z34 z35 z36 z37 z38 z39 h0 A C k u ca cc z m f g hf hg hg2 hm hw1 hw2 hw3 HG HA hca hk HU hcc hu hs hs2 H bp x hS' (pb.low hb)
set_option maxRecDepth 100000 in
set_option maxHeartbeats 1000000 in
theorem sa_7 (Q : Exit → Act → World → Prop) (hQ : ∀ c a w n v, Q (.panic c) (a.put (some n) v) w → Q (.panic c) a w) (u0 : World) (z3 z4 z5 z6 z8 z9 z10 z11 z12 z13 z14 z15 z16 z17 z18 z19 z20 z21 z22 z23 z24 z25 z26 z27 z28 z29 z30 z31 z32 z33 z34 z35 z36 z37 z38 z39 : Value) (h0 : SumOk) (A C : Option Addr) (k u : List Nat) (ca cc z m : Nat) (f g : Nat → Nat) (hf : Hid (f = mc k u)) (hg : Hid (g = mc [] u)) (hg2 : Hid (g = mc (List.replicate m 0) u)) (hm : Hid (m ≤ 128)) (hw1 : wrap64 (z : Int) = (z : Int)) (hw2 : (z : Int).tmod 129 = (m : Int)) (hw3 : IntKind.i64.wrap (z : Int) = (z : Int)) (HG : Glob u0) (HA : Rds u0 A k) (hca : k.length ≤ ca) (hk : ∀ x ∈ k, x < 256) (HU : Rds u0 C u) (hcc : u.length ≤ cc) (hu : ∀ x ∈ u, x < 256) (hs : k.length < 2 ^ 29) (hs2 : u.length < 2 ^ 29) (H : ∀ (bp : Nat) (bm : Nat) (w : World), Below u0.heap.size u0 w → Blk w bp #[.slice C u.length cc] 23 → Blk w bm (vals .u8 m (fun _ => 0)) 5 → Q .normal { tmps := List.toArray ((.slice A k.length ca) :: (.slice C u.length cc) :: (.int .u8 (z : Int)) :: z3 :: z4 :: z5 :: (.bool true) :: (.bool true) :: z8 :: z9 :: z10 :: z11 :: z12 :: z13 :: z14 :: z15 :: z16 :: z17 :: (.bool true) :: (.bool true) :: (.slice A k.length ca) :: (.slice C u.length cc) :: (.agg (vals .u8 64 f)) :: (.slice A k.length ca) :: (.slice C u.length cc) :: (.slice (some ⟨bp, 0, none⟩) 1 1) :: (.agg (vals .u8 64 f)) :: (.bool true) :: (.bool true) :: (.bool true) :: (.slice C u.length cc) :: (.agg (vals .u8 64 g)) :: (.int .u8 (z : Int)) :: (.int .i64 (z : Int)) :: (.int .i64 (m : Int)) :: (.slice (some ⟨bm, 0, none⟩) m m) :: (.slice C u.length cc) :: (.agg (vals .u8 64 g)) :: (.bool true) :: (.bool true) :: []), defers := [] } w) (w : World) (hS : Below u0.heap.size u0 w) :
    wpAnyH Tryd.prog .any saOps Q (fun w' => Below u0.heap.size u0 w') 16 (List.toArray (true :: true :: true :: true :: true :: true :: true :: false :: false :: false :: false :: false :: false :: false :: false :: false :: false :: false :: false :: false :: false :: false :: false :: [])) { tmps := List.toArray ((.slice A k.length ca) :: (.slice C u.length cc) :: (.int .u8 (z : Int)) :: z3 :: z4 :: z5 :: z6 :: (.bool true) :: z8 :: z9 :: z10 :: z11 :: z12 :: z13 :: z14 :: z15 :: z16 :: z17 :: (.bool true) :: (.bool true) :: (.slice A k.length ca) :: (.slice C u.length cc) :: (.agg (vals .u8 64 f)) :: (.slice A k.length ca) :: (.slice C u.length cc) :: z25 :: z26 :: z27 :: z28 :: z29 :: z30 :: z31 :: z32 :: z33 :: z34 :: z35 :: z36 :: z37 :: z38 :: z39 :: []), defers := [] } w := by
  refine wpAnyH_ready (rs := [7]) (by kernel_rfl) (by simp) ?_
  refine AllReadyH.cons (o := saOp7) rfl (fun K hK => ?_) AllReadyH.nil
  have hb := (Below.refl w.heap.size w).alloc (Nat.le_refl _) (.cells (#[.slice C u.length cc]) 23)
  have hS' := keepCall hb rfl hS
  obtain ⟨bp, ebp⟩ : ∃ b, b = w.heap.size := ⟨_, rfl⟩
  have pb : Blk (w.alloc (.cells (#[.slice C u.length cc]) 23)) bp #[.slice C u.length cc] 23 := by rw [ebp]; exact Blk.new w _ _
  unfold saOp7
  go_simp
  rw [← ebp]
  refine hK.out _ _ hS' (fun _ => ?_)
  clear hK K
  simp only [List.setIfInBounds_toArray, List.set_cons_zero, List.set_cons_succ]
  exact sa_5 Q hQ u0 z3 z4 z5 z6 z8 z9 z10 z11 z12 z13 z14 z15 z16 z17 z18 z19 z20 z21 z22 z23 z24 z25 z26 z27 z28 z29 z30 z31 z32 z33 z34 z35 z36 z37 z38 z39 h0 A C k u ca cc z m f g hf hg hg2 hm hw1 hw2 hw3 HG HA hca hk HU hcc hu hs hs2 H bp (w.alloc (.cells (#[.slice C u.length cc]) 23)) hS' pb
set_option maxRecDepth 100000 in
set_option maxHeartbeats 1000000 in
theorem sa_8 (Q : Exit → Act → World → Prop) (hQ : ∀ c a w n v, Q (.panic c) (a.put (some n) v) w → Q (.panic c) a w) (u0 : World) (z3 z4 z5 z6 z8 z9 z10 z11 z12 z13 z14 z15 z16 z17 z18 z19 z20 z21 z22 z23 z24 z25 z26 z27 z28 z29 z30 z31 z32 z33 z34 z35 z36 z37 z38 z39 : Value) (h0 : SumOk) (A C : Option Addr) (k u : List Nat) (ca cc z m : Nat) (f g : Nat → Nat) (hf : Hid (f = mc k u)) (hg : Hid (g = mc [] u)) (hg2 : Hid (g = mc (List.replicate m 0) u)) (hm : Hid (m ≤ 128)) (hw1 : wrap64 (z : Int) = (z : Int)) (hw2 : (z : Int).tmod 129 = (m : Int)) (hw3 : IntKind.i64.wrap (z : Int) = (z : Int)) (HG : Glob u0) (HA : Rds u0 A k) (hca : k.length ≤ ca) (hk : ∀ x ∈ k, x < 256) (HU : Rds u0 C u) (hcc : u.length ≤ cc) (hu : ∀ x ∈ u, x < 256) (hs : k.length < 2 ^ 29) (hs2 : u.length < 2 ^ 29) (H : ∀ (bp : Nat) (bm : Nat) (w : World), Below u0.heap.size u0 w → Blk w bp #[.slice C u.length cc] 23 → Blk w bm (vals .u8 m (fun _ => 0)) 5 → Q .normal { tmps := List.toArray ((.slice A k.length ca) :: (.slice C u.length cc) :: (.int .u8 (z : Int)) :: z3 :: z4 :: z5 :: (.bool true) :: (.bool true) :: z8 :: z9 :: z10 :: z11 :: z12 :: z13 :: z14 :: z15 :: z16 :: z17 :: (.bool true) :: (.bool true) :: (.slice A k.length ca) :: (.slice C u.length cc) :: (.agg (vals .u8 64 f)) :: (.slice A k.length ca) :: (.slice C u.length cc) :: (.slice (some ⟨bp, 0, none⟩) 1 1) :: (.agg (vals .u8 64 f)) :: (.bool true) :: (.bool true) :: (.bool true) :: (.slice C u.length cc) :: (.agg (vals .u8 64 g)) :: (.int .u8 (z : Int)) :: (.int .i64 (z : Int)) :: (.int .i64 (m : Int)) :: (.slice (some ⟨bm, 0, none⟩) m m) :: (.slice C u.length cc) :: (.agg (vals .u8 64 g)) :: (.bool true) :: (.bool true) :: []), defers := [] } w) (w : World) (hS : Below u0.heap.size u0 w) :
    wpAnyH Tryd.prog .any saOps Q (fun w' => Below u0.heap.size u0 w') 17 (List.toArray (true :: true :: true :: true :: false :: true :: true :: false :: false :: false :: false :: false :: false :: false :: false :: false :: false :: false :: false :: false :: false :: false :: false :: [])) { tmps := List.toArray ((.slice A k.length ca) :: (.slice C u.length cc) :: (.int .u8 (z : Int)) :: z3 :: z4 :: z5 :: z6 :: (.bool true) :: z8 :: z9 :: z10 :: z11 :: z12 :: z13 :: z14 :: z15 :: z16 :: z17 :: (.bool true) :: (.bool true) :: (.slice A k.length ca) :: (.slice C u.length cc) :: z22 :: (.slice A k.length ca) :: (.slice C u.length cc) :: z25 :: z26 :: z27 :: z28 :: z29 :: z30 :: z31 :: z32 :: z33 :: z34 :: z35 :: z36 :: z37 :: z38 :: z39 :: []), defers := [] } w := by
  refine wpAnyH_ready (rs := [4, 7]) (by kernel_rfl) (by simp) ?_
  refine AllReadyH.cons (o := saOp4) rfl (fun K hK => ?_) ?_
  · skip
    unfold saOp4
    go_simp
    refine (ext_at f h0 A C k u hf.out ca cc _ w (by rfl) (HG.low hS) (HA.low hS) hca hk (HU.low hS) hcc hu hs hs2).mono ?_
    rintro e x ⟨rfl, hb⟩
    dsimp only
    have hS' := keepCall hb rfl hS
    refine hK.out _ _ hS' (fun _ => ?_)
    clear hK K
    simp only [List.setIfInBounds_toArray, List.set_cons_zero, List.set_cons_succ]
    exact sa_7 Q hQ u0 z3 z4 z5 z6 z8 z9 z10 z11 z12 z13 z14 z15 z16 z17 z18 z19 z20 z21 z22 z23 z24 z25 z26 z27 z28 z29 z30 z31 z32 z33 z34 z35 z36 z37 z38 z39 h0 A C k u ca cc z m f g hf hg hg2 hm hw1 hw2 hw3 HG HA hca hk HU hcc hu hs hs2 H  x hS' 
  · refine AllReadyH.cons (o := saOp7) rfl (fun K hK => ?_) AllReadyH.nil
    have hb := (Below.refl w.heap.size w).alloc (Nat.le_refl _) (.cells (#[.slice C u.length cc]) 23)
    have hS' := keepCall hb rfl hS
    obtain ⟨bp, ebp⟩ : ∃ b, b = w.heap.size := ⟨_, rfl⟩
    have pb : Blk (w.alloc (.cells (#[.slice C u.length cc]) 23)) bp #[.slice C u.length cc] 23 := by rw [ebp]; exact Blk.new w _ _
    unfold saOp7
    go_simp
    rw [← ebp]
    refine hK.out _ _ hS' (fun _ => ?_)
    clear hK K
    simp only [List.setIfInBounds_toArray, List.set_cons_zero, List.set_cons_succ]
    exact sa_6 Q hQ u0 z3 z4 z5 z6 z8 z9 z10 z11 z12 z13 z14 z15 z16 z17 z18 z19 z20 z21 z22 z23 z24 z25 z26 z27 z28 z29 z30 z31 z32 z33 z34 z35 z36 z37 z38 z39 h0 A C k u ca cc z m f g hf hg hg2 hm hw1 hw2 hw3 HG HA hca hk HU hcc hu hs hs2 H bp (w.alloc (.cells (#[.slice C u.length cc]) 23)) hS' pb
set_option maxRecDepth 100000 in
set_option maxHeartbeats 1000000 in
theorem sa_region (Q : Exit → Act → World → Prop) (hQ : ∀ c a w n v, Q (.panic c) (a.put (some n) v) w → Q (.panic c) a w) (u0 : World) (z3 z4 z5 z6 z8 z9 z10 z11 z12 z13 z14 z15 z16 z17 z18 z19 z20 z21 z22 z23 z24 z25 z26 z27 z28 z29 z30 z31 z32 z33 z34 z35 z36 z37 z38 z39 : Value) (h0 : SumOk) (A C : Option Addr) (k u : List Nat) (ca cc z m : Nat) (f g : Nat → Nat) (hf : Hid (f = mc k u)) (hg : Hid (g = mc [] u)) (hg2 : Hid (g = mc (List.replicate m 0) u)) (hm : Hid (m ≤ 128)) (hw1 : wrap64 (z : Int) = (z : Int)) (hw2 : (z : Int).tmod 129 = (m : Int)) (hw3 : IntKind.i64.wrap (z : Int) = (z : Int)) (HG : Glob u0) (HA : Rds u0 A k) (hca : k.length ≤ ca) (hk : ∀ x ∈ k, x < 256) (HU : Rds u0 C u) (hcc : u.length ≤ cc) (hu : ∀ x ∈ u, x < 256) (hs : k.length < 2 ^ 29) (hs2 : u.length < 2 ^ 29) (H : ∀ (bp : Nat) (bm : Nat) (w : World), Below u0.heap.size u0 w → Blk w bp #[.slice C u.length cc] 23 → Blk w bm (vals .u8 m (fun _ => 0)) 5 → Q .normal { tmps := List.toArray ((.slice A k.length ca) :: (.slice C u.length cc) :: (.int .u8 (z : Int)) :: z3 :: z4 :: z5 :: (.bool true) :: (.bool true) :: z8 :: z9 :: z10 :: z11 :: z12 :: z13 :: z14 :: z15 :: z16 :: z17 :: (.bool true) :: (.bool true) :: (.slice A k.length ca) :: (.slice C u.length cc) :: (.agg (vals .u8 64 f)) :: (.slice A k.length ca) :: (.slice C u.length cc) :: (.slice (some ⟨bp, 0, none⟩) 1 1) :: (.agg (vals .u8 64 f)) :: (.bool true) :: (.bool true) :: (.bool true) :: (.slice C u.length cc) :: (.agg (vals .u8 64 g)) :: (.int .u8 (z : Int)) :: (.int .i64 (z : Int)) :: (.int .i64 (m : Int)) :: (.slice (some ⟨bm, 0, none⟩) m m) :: (.slice C u.length cc) :: (.agg (vals .u8 64 g)) :: (.bool true) :: (.bool true) :: []), defers := [] } w) :
    (Code.region 4 saOps true).wp Tryd.prog Q { tmps := List.toArray ((.slice A k.length ca) :: (.slice C u.length cc) :: (.int .u8 (z : Int)) :: z3 :: z4 :: z5 :: z6 :: (.bool true) :: z8 :: z9 :: z10 :: z11 :: z12 :: z13 :: z14 :: z15 :: z16 :: z17 :: z18 :: z19 :: z20 :: z21 :: z22 :: z23 :: z24 :: z25 :: z26 :: z27 :: z28 :: z29 :: z30 :: z31 :: z32 :: z33 :: z34 :: z35 :: z36 :: z37 :: z38 :: z39 :: []), defers := [] } u0 := by
  refine wp_region_held_drew (S := (fun w' => Below u0.heap.size u0 w')) (by kernel_rfl) (Below.refl _ _).drew (fun hS => ?_)
  refine wpAnyH_take (i := 0) (oi := saOp0) (v := .bool true) rfl (by kernel_rfl) (by kernel_rfl) (by kernel_rfl) (fun _ _ _ => hQ _ _ _ _ _) (Or.inl ⟨by rfl, fun w hSw => by unfold saOp0; go_simp⟩) hS ?_
  try simp only [saOp0, Act.put, List.setIfInBounds_toArray, List.set_cons_zero, List.set_cons_succ]
  refine wpAnyH_take (i := 1) (oi := saOp1) (v := .bool true) rfl (by kernel_rfl) (by kernel_rfl) (by kernel_rfl) (fun _ _ _ => hQ _ _ _ _ _) (Or.inl ⟨by rfl, fun w hSw => by unfold saOp1; go_simp⟩) hS ?_
  try simp only [saOp1, Act.put, List.setIfInBounds_toArray, List.set_cons_zero, List.set_cons_succ]
  refine wpAnyH_take (i := 2) (oi := saOp2) (v := .slice A k.length ca) rfl (by kernel_rfl) (by kernel_rfl) (by kernel_rfl) (fun _ _ _ => hQ _ _ _ _ _) (Or.inl ⟨by rfl, fun w hSw => by unfold saOp2; go_simp⟩) hS ?_
  try simp only [saOp2, Act.put, List.setIfInBounds_toArray, List.set_cons_zero, List.set_cons_succ]
  refine wpAnyH_take (i := 3) (oi := saOp3) (v := .slice C u.length cc) rfl (by kernel_rfl) (by kernel_rfl) (by kernel_rfl) (fun _ _ _ => hQ _ _ _ _ _) (Or.inl ⟨by rfl, fun w hSw => by unfold saOp3; go_simp⟩) hS ?_
  try simp only [saOp3, Act.put, List.setIfInBounds_toArray, List.set_cons_zero, List.set_cons_succ]
  refine wpAnyH_take (i := 5) (oi := saOp5) (v := .slice A k.length ca) rfl (by kernel_rfl) (by kernel_rfl) (by kernel_rfl) (fun _ _ _ => hQ _ _ _ _ _) (Or.inl ⟨by rfl, fun w hSw => by unfold saOp5; go_simp⟩) hS ?_
  try simp only [saOp5, Act.put, List.setIfInBounds_toArray, List.set_cons_zero, List.set_cons_succ]
  refine wpAnyH_take (i := 6) (oi := saOp6) (v := .slice C u.length cc) rfl (by kernel_rfl) (by kernel_rfl) (by kernel_rfl) (fun _ _ _ => hQ _ _ _ _ _) (Or.inl ⟨by rfl, fun w hSw => by unfold saOp6; go_simp⟩) hS ?_
  try simp only [saOp6, Act.put, List.setIfInBounds_toArray, List.set_cons_zero, List.set_cons_succ]
  exact sa_8 Q hQ u0 z3 z4 z5 z6 z8 z9 z10 z11 z12 z13 z14 z15 z16 z17 z18 z19 z20 z21 z22 z23 z24 z25 z26 z27 z28 z29 z30 z31 z32 z33 z34 z35 z36 z37 z38 z39 h0 A C k u ca cc z m f g hf hg hg2 hm hw1 hw2 hw3 HG HA hca hk HU hcc hu hs hs2 H u0.drew hS
set_option maxRecDepth 100000 in
set_option maxHeartbeats 4000000 in
theorem salt_walk (h0 : SumOk) (A C : Option Addr) (k u : List Nat) (ca cc z : Nat) (w : World) (hG : Glob w) (hA : Rds w A k) (hca : k.length ≤ ca) (hk : ∀ x ∈ k, x < 256) (hC : Rds w C u) (hcc : u.length ≤ cc) (hu : ∀ x ∈ u, x < 256) (hz : z < 256) :
    Calls Tryd.prog 8 #[.slice A k.length ca, .slice C u.length cc, .int .u8 (z : Int)] w fun e w' => e = .returned (.bool true) ∧ Below w.heap.size w w' := by
  have Hz := hide hz
  clear hz
  have H0 := hide h0
  have HG := hide hG
  have HA := hide hA
  have Hca := hide hca
  have Hk := hide hk
  have HC := hide hC
  have Hcc := hide hcc
  have Hu := hide hu
  clear h0 hG hA hca hk hC hcc hu
  go_enter Tryd.func8, Tryd.ntmps8
  go_upto_region 2 with (go_at_call 9; refine (awake_at H0.out _ _ rfl HG.out).mono ?_; rintro e w1 ⟨rfl, hb⟩; have L1 := hide hb; clear hb; dsimp only)
  by_cases hlk : 500 < k.length
  · have hi : (500 : Int) < (k.length : Int) := by omega
    go_wp2
    go_ret
    exact ⟨rfl, L1.out⟩
  have hi : ¬ (500 : Int) < (k.length : Int) := by omega
  have Hlk := hide hlk
  clear hlk
  by_cases hll : 500 < u.length
  · have hj : (500 : Int) < (u.length : Int) := by omega
    go_wp2
    go_ret
    exact ⟨rfl, L1.out⟩
  have hj : ¬ (500 : Int) < (u.length : Int) := by omega
  have Hll := hide hll
  clear hll
  obtain ⟨m, hm⟩ : ∃ m, m = z % 129 := ⟨_, rfl⟩
  have hw1 : wrap64 (z : Int) = (z : Int) := by have := Hz.out; unfold wrap64; omega
  have ht1 : (z : Int).tmod 129 = (m : Int) := by rw [Int.tmod_eq_emod_of_nonneg (by omega)]; omega
  have Hw1 := hide hw1
  have Ht1 := hide ht1
  have Hm : Hid (m ≤ 128) := hide (by omega)
  obtain ⟨f, hf⟩ : ∃ f, f = mc k u := ⟨_, rfl⟩
  obtain ⟨g, hg⟩ : ∃ g, g = mc [] u := ⟨_, rfl⟩
  have Hf := hide hf
  have Hg := hide hg
  have Hg2 : Hid (g = mc (List.replicate m 0) u) := hide (by
    have := mc_zeros [] u m (by have := Hm.out; simp; omega)
    rw [List.nil_append] at this
    rw [hg, this])
  clear hm hw1 ht1 hf hg
  go_upto_region 4 with (fail)
  refine sa_region _ (fun _ _ _ _ _ h => h) w1 _ _ _ _ _ _ _ _ _ _ _ _ _ _ _ _ _ _ _ _ _ _ _ _ _ _ _ _ _ _ _ _ _ _ _ _ H0.out A C k u ca cc z m f g Hf Hg Hg2 Hm Hw1.out Ht1.out (wrap_small _ (by omega) (by have := Hz.out; omega)) (HG.out.low L1.out) (HA.out.low L1.out) Hca.out Hk.out (HC.out.low L1.out) Hcc.out Hu.out (by have := Hlk.out; omega) (by have := Hll.out; omega) ?_
  intro bp bm w9 hS9 _ _
  have L9 := hide (keepLow2 L1.out hS9)
  clear hS9
  go_wp2
  go_ret
  exact ⟨rfl, L9.out⟩
end Go.Proofs.YtjnjedannpnjiaaDoor

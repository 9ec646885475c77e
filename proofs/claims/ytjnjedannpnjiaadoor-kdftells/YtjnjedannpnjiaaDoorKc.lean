/- Walks: behind. -/
import Derived.Test.YtjnjedannpnjiaaDoorKb
namespace Go.Proofs.YtjnjedannpnjiaaDoor
open Go.RowKit

theorem new_at (args : Array Value) (w : World) (h : args = #[]) : Calls Tryd.prog 23 args w fun e w' => e = .returned (.agg (stc (fun _ => 0) (fun _ => 0) 0)) ∧ Below w.heap.size w w' := by
  subst h; exact new_any w
def bhOp0 : Oper := { dst := some 8, op := Op.call { callee := Callee.value (Operand.func 23), args := #[], argTypes := #[] }, type := 47, pos := "mac.go:52", after := #[], guard := none }
def bhOp1 : Oper := { dst := some 9, op := Op.slice 37 (Operand.tmp 2) none none none, type := 23, pos := "mac.go:52", after := #[], guard := none }
def bhOp2 : Oper := { dst := some 10, op := Op.call { callee := Callee.value (Operand.func 24), args := #[Operand.tmp 8, Operand.tmp 9], argTypes := #[47, 23] }, type := 47, pos := "mac.go:52", after := #[{ on := 0, ground := Ground.data }, { on := 1, ground := Ground.data }, { on := 0, ground := Ground.chain }], guard := none }
def bhOp3 : Oper := { dst := some 5, op := Op.alloc 47, type := 0, pos := "mac.go:52", after := #[], guard := none }
def bhOp4 : Oper := { dst := none, op := Op.store 47 (Operand.tmp 5) (Operand.tmp 10), type := 0, pos := "mac.go:52", after := #[{ on := 3, ground := Ground.data }, { on := 2, ground := Ground.data }, { on := 2, ground := Ground.chain }, { on := 0, ground := Ground.phase }, { on := 1, ground := Ground.phase }, { on := 2, ground := Ground.phase }, { on := 3, ground := Ground.phase }], guard := none }
def bhOps : Array Oper := #[bhOp0, bhOp1, bhOp2, bhOp3, bhOp4]
set_option maxRecDepth 100000 in
set_option maxHeartbeats 1000000 in
theorem bh_0 (Q : Exit → Act → World → Prop) (hQ : ∀ c a w n v, Q (.panic c) (a.put (some n) v) w → Q (.panic c) a w) (u : World) (z0 z1 z3 z4 z5 z6 z7 z8 z9 z10 z11 z12 z13 z14 z15 z16 z17 z18 z19 z20 z21 z22 : Value) (q : List Nat) (b0 : Nat) (HG : Glob u) (HD : Rds u (some ⟨b0, 0, none⟩) q) (hq : q.length = 128) (Hq : ∀ x ∈ q, x < 256) (H : ∀ (r2 : Nat → Nat) (f2 : Nat → Nat) (n2 : Nat) (b5 : Nat) (w : World), Below u.heap.size u w → Rep r2 f2 n2 q → u.heap.size ≤ b5 → Blk w b5 (stc r2 f2 n2) 47 → Q .normal { tmps := List.toArray (z0 :: z1 :: (.pointer (some ⟨b0, 0, none⟩)) :: z3 :: z4 :: (.pointer (some ⟨b5, 0, none⟩)) :: z6 :: z7 :: (.agg (stc (fun _ => 0) (fun _ => 0) 0)) :: (.slice (some ⟨b0, 0, none⟩) 128 128) :: (.agg (stc r2 f2 n2)) :: z11 :: z12 :: z13 :: z14 :: z15 :: z16 :: z17 :: z18 :: z19 :: z20 :: z21 :: z22 :: []), defers := [] } w) (r2 : Nat → Nat) (f2 : Nat → Nat) (n2 : Nat) (b5 : Nat) (w : World) (hS : Below u.heap.size u w) (hR : Rep r2 f2 n2 q) (h5 : u.heap.size ≤ b5) (c5 : Blk w b5 (stc r2 f2 n2) 47) :
    wpAnyH Tryd.prog .any bhOps Q (fun w' => Below u.heap.size u w') 0 (List.toArray (true :: true :: true :: true :: true :: [])) { tmps := List.toArray (z0 :: z1 :: (.pointer (some ⟨b0, 0, none⟩)) :: z3 :: z4 :: (.pointer (some ⟨b5, 0, none⟩)) :: z6 :: z7 :: (.agg (stc (fun _ => 0) (fun _ => 0) 0)) :: (.slice (some ⟨b0, 0, none⟩) 128 128) :: (.agg (stc r2 f2 n2)) :: z11 :: z12 :: z13 :: z14 :: z15 :: z16 :: z17 :: z18 :: z19 :: z20 :: z21 :: z22 :: []), defers := [] } w := by
  have _ := hQ
  have _ := u
  have _ := z0
  have _ := z1
  have _ := z3
  have _ := z4
  have _ := z5
  have _ := z6
  have _ := z7
  have _ := z8
  have _ := z9
  have _ := z10
  have _ := z11
  have _ := z12
  have _ := z13
  have _ := z14
  have _ := z15
  have _ := z16
  have _ := z17
  have _ := z18
  have _ := z19
  have _ := z20
  have _ := z21
  have _ := z22
  have _ := q
  have _ := b0
  have _ := HG
  have _ := HD
  have _ := hq
  have _ := Hq
  exact wpAnyH_done (by kernel_rfl) (H r2 f2 n2 b5 w hS hR h5 c5) _
set_option maxRecDepth 100000 in
set_option maxHeartbeats 1000000 in
theorem bh_1 (Q : Exit → Act → World → Prop) (hQ : ∀ c a w n v, Q (.panic c) (a.put (some n) v) w → Q (.panic c) a w) (u : World) (z0 z1 z3 z4 z5 z6 z7 z8 z9 z10 z11 z12 z13 z14 z15 z16 z17 z18 z19 z20 z21 z22 : Value) (q : List Nat) (b0 : Nat) (HG : Glob u) (HD : Rds u (some ⟨b0, 0, none⟩) q) (hq : q.length = 128) (Hq : ∀ x ∈ q, x < 256) (H : ∀ (r2 : Nat → Nat) (f2 : Nat → Nat) (n2 : Nat) (b5 : Nat) (w : World), Below u.heap.size u w → Rep r2 f2 n2 q → u.heap.size ≤ b5 → Blk w b5 (stc r2 f2 n2) 47 → Q .normal { tmps := List.toArray (z0 :: z1 :: (.pointer (some ⟨b0, 0, none⟩)) :: z3 :: z4 :: (.pointer (some ⟨b5, 0, none⟩)) :: z6 :: z7 :: (.agg (stc (fun _ => 0) (fun _ => 0) 0)) :: (.slice (some ⟨b0, 0, none⟩) 128 128) :: (.agg (stc r2 f2 n2)) :: z11 :: z12 :: z13 :: z14 :: z15 :: z16 :: z17 :: z18 :: z19 :: z20 :: z21 :: z22 :: []), defers := [] } w) (r2 : Nat → Nat) (f2 : Nat → Nat) (n2 : Nat) (b5 : Nat) (w : World) (hS : Below u.heap.size u w) (hR : Rep r2 f2 n2 q) (c5 : Blk w b5 (stc (fun _ => 0) (fun _ => 0) 0) 47) (h5 : u.heap.size ≤ b5) :
    wpAnyH Tryd.prog .any bhOps Q (fun w' => Below u.heap.size u w') 1 (List.toArray (true :: true :: true :: true :: false :: [])) { tmps := List.toArray (z0 :: z1 :: (.pointer (some ⟨b0, 0, none⟩)) :: z3 :: z4 :: (.pointer (some ⟨b5, 0, none⟩)) :: z6 :: z7 :: (.agg (stc (fun _ => 0) (fun _ => 0) 0)) :: (.slice (some ⟨b0, 0, none⟩) 128 128) :: (.agg (stc r2 f2 n2)) :: z11 :: z12 :: z13 :: z14 :: z15 :: z16 :: z17 :: z18 :: z19 :: z20 :: z21 :: z22 :: []), defers := [] } w := by
  refine wpAnyH_ready (rs := [4]) (by kernel_rfl) (by simp) ?_
  refine AllReadyH.cons (o := bhOp4) rfl (fun K hK => ?_) AllReadyH.nil
  unfold bhOp4
  rw [if_pos (by rfl)]
  refine wp_store_row 47 _ _ rfl (b5) (stc r2 f2 n2) rfl rfl 47 _ c5 (by rw [stc_size]; exact cells31) (by simp only [stc_size]) (stc_one _ _ _) ?_
  have hS' := Below.row (b := b5) hS h5 (stc r2 f2 n2)
  refine hK.out _ _ hS' (fun _ => ?_)
  clear hK K
  simp only [Act.put, List.setIfInBounds_toArray, List.set_cons_zero, List.set_cons_succ]
  exact bh_0 Q hQ u z0 z1 z3 z4 z5 z6 z7 z8 z9 z10 z11 z12 z13 z14 z15 z16 z17 z18 z19 z20 z21 z22 q b0 HG HD hq Hq H r2 f2 n2 b5 (w.setRow (b5) (stc r2 f2 n2)) hS' hR h5 (c5.row _)
set_option maxRecDepth 100000 in
set_option maxHeartbeats 1000000 in
theorem bh_2 (Q : Exit → Act → World → Prop) (hQ : ∀ c a w n v, Q (.panic c) (a.put (some n) v) w → Q (.panic c) a w) (u : World) (z0 z1 z3 z4 z5 z6 z7 z8 z9 z10 z11 z12 z13 z14 z15 z16 z17 z18 z19 z20 z21 z22 : Value) (q : List Nat) (b0 : Nat) (HG : Glob u) (HD : Rds u (some ⟨b0, 0, none⟩) q) (hq : q.length = 128) (Hq : ∀ x ∈ q, x < 256) (H : ∀ (r2 : Nat → Nat) (f2 : Nat → Nat) (n2 : Nat) (b5 : Nat) (w : World), Below u.heap.size u w → Rep r2 f2 n2 q → u.heap.size ≤ b5 → Blk w b5 (stc r2 f2 n2) 47 → Q .normal { tmps := List.toArray (z0 :: z1 :: (.pointer (some ⟨b0, 0, none⟩)) :: z3 :: z4 :: (.pointer (some ⟨b5, 0, none⟩)) :: z6 :: z7 :: (.agg (stc (fun _ => 0) (fun _ => 0) 0)) :: (.slice (some ⟨b0, 0, none⟩) 128 128) :: (.agg (stc r2 f2 n2)) :: z11 :: z12 :: z13 :: z14 :: z15 :: z16 :: z17 :: z18 :: z19 :: z20 :: z21 :: z22 :: []), defers := [] } w) (b5 : Nat) (w : World) (hS : Below u.heap.size u w) (c5 : Blk w b5 (stc (fun _ => 0) (fun _ => 0) 0) 47) (h5 : u.heap.size ≤ b5) :
    wpAnyH Tryd.prog .any bhOps Q (fun w' => Below u.heap.size u w') 2 (List.toArray (true :: true :: false :: true :: false :: [])) { tmps := List.toArray (z0 :: z1 :: (.pointer (some ⟨b0, 0, none⟩)) :: z3 :: z4 :: (.pointer (some ⟨b5, 0, none⟩)) :: z6 :: z7 :: (.agg (stc (fun _ => 0) (fun _ => 0) 0)) :: (.slice (some ⟨b0, 0, none⟩) 128 128) :: z10 :: z11 :: z12 :: z13 :: z14 :: z15 :: z16 :: z17 :: z18 :: z19 :: z20 :: z21 :: z22 :: []), defers := [] } w := by
  refine wpAnyH_ready (rs := [2]) (by kernel_rfl) (by simp) ?_
  refine AllReadyH.cons (o := bhOp2) rfl (fun K hK => ?_) AllReadyH.nil
  unfold bhOp2
  go_simp
  refine (write_at (fun _ => 0) (fun _ => 0) 0 [] q (some ⟨b0, 0, none⟩) 128 _ w (by rw [hq]) (HG.low hS) rep_none Hq (HD.low hS) (by omega) (by omega)).mono ?_
  rintro e x ⟨r2, f2, n2, rfl, hR2, hb⟩
  dsimp only
  have hS' := keepCall hb rfl hS
  refine hK.out _ _ hS' (fun _ => ?_)
  clear hK K
  simp only [List.setIfInBounds_toArray, List.set_cons_zero, List.set_cons_succ]
  exact bh_1 Q hQ u z0 z1 z3 z4 z5 z6 z7 z8 z9 z10 z11 z12 z13 z14 z15 z16 z17 z18 z19 z20 z21 z22 q b0 HG HD hq Hq H r2 f2 n2 b5 x hS' (hR2) (c5.low hb) h5
set_option maxRecDepth 100000 in
set_option maxHeartbeats 1000000 in
theorem bh_3 (Q : Exit → Act → World → Prop) (hQ : ∀ c a w n v, Q (.panic c) (a.put (some n) v) w → Q (.panic c) a w) (u : World) (z0 z1 z3 z4 z5 z6 z7 z8 z9 z10 z11 z12 z13 z14 z15 z16 z17 z18 z19 z20 z21 z22 : Value) (q : List Nat) (b0 : Nat) (HG : Glob u) (HD : Rds u (some ⟨b0, 0, none⟩) q) (hq : q.length = 128) (Hq : ∀ x ∈ q, x < 256) (H : ∀ (r2 : Nat → Nat) (f2 : Nat → Nat) (n2 : Nat) (b5 : Nat) (w : World), Below u.heap.size u w → Rep r2 f2 n2 q → u.heap.size ≤ b5 → Blk w b5 (stc r2 f2 n2) 47 → Q .normal { tmps := List.toArray (z0 :: z1 :: (.pointer (some ⟨b0, 0, none⟩)) :: z3 :: z4 :: (.pointer (some ⟨b5, 0, none⟩)) :: z6 :: z7 :: (.agg (stc (fun _ => 0) (fun _ => 0) 0)) :: (.slice (some ⟨b0, 0, none⟩) 128 128) :: (.agg (stc r2 f2 n2)) :: z11 :: z12 :: z13 :: z14 :: z15 :: z16 :: z17 :: z18 :: z19 :: z20 :: z21 :: z22 :: []), defers := [] } w) (r2 : Nat → Nat) (f2 : Nat → Nat) (n2 : Nat) (w : World) (hS : Below u.heap.size u w) (hR : Rep r2 f2 n2 q) :
    wpAnyH Tryd.prog .any bhOps Q (fun w' => Below u.heap.size u w') 2 (List.toArray (true :: true :: true :: false :: false :: [])) { tmps := List.toArray (z0 :: z1 :: (.pointer (some ⟨b0, 0, none⟩)) :: z3 :: z4 :: z5 :: z6 :: z7 :: (.agg (stc (fun _ => 0) (fun _ => 0) 0)) :: (.slice (some ⟨b0, 0, none⟩) 128 128) :: (.agg (stc r2 f2 n2)) :: z11 :: z12 :: z13 :: z14 :: z15 :: z16 :: z17 :: z18 :: z19 :: z20 :: z21 :: z22 :: []), defers := [] } w := by
  refine wpAnyH_ready (rs := [3]) (by kernel_rfl) (by simp) ?_
  refine AllReadyH.cons (o := bhOp3) rfl (fun K hK => ?_) AllReadyH.nil
  have hz := zero31
  have hb := (Below.refl w.heap.size w).alloc (Nat.le_refl _) (.cells (stc (fun _ => 0) (fun _ => 0) 0) 47)
  have hS' := keepCall hb rfl hS
  obtain ⟨b5, eb5⟩ : ∃ b, b = w.heap.size := ⟨_, rfl⟩
  have c5 : Blk (w.alloc (.cells (stc (fun _ => 0) (fun _ => 0) 0) 47)) b5 (stc (fun _ => 0) (fun _ => 0) 0) 47 := by rw [eb5]; exact Blk.new w _ _
  have h5 : u.heap.size ≤ b5 := by rw [eb5]; exact hS.size
  unfold bhOp3
  go_simp
  rw [← eb5]
  refine hK.out _ _ hS' (fun _ => ?_)
  clear hK K
  simp only [List.setIfInBounds_toArray, List.set_cons_zero, List.set_cons_succ]
  exact bh_1 Q hQ u z0 z1 z3 z4 z5 z6 z7 z8 z9 z10 z11 z12 z13 z14 z15 z16 z17 z18 z19 z20 z21 z22 q b0 HG HD hq Hq H r2 f2 n2 b5 (w.alloc (.cells (stc (fun _ => 0) (fun _ => 0) 0) 47)) hS' hR c5 h5
set_option maxRecDepth 100000 in
set_option maxHeartbeats 1000000 in
theorem bh_4 (Q : Exit → Act → World → Prop) (hQ : ∀ c a w n v, Q (.panic c) (a.put (some n) v) w → Q (.panic c) a w) (u : World) (z0 z1 z3 z4 z5 z6 z7 z8 z9 z10 z11 z12 z13 z14 z15 z16 z17 z18 z19 z20 z21 z22 : Value) (q : List Nat) (b0 : Nat) (HG : Glob u) (HD : Rds u (some ⟨b0, 0, none⟩) q) (hq : q.length = 128) (Hq : ∀ x ∈ q, x < 256) (H : ∀ (r2 : Nat → Nat) (f2 : Nat → Nat) (n2 : Nat) (b5 : Nat) (w : World), Below u.heap.size u w → Rep r2 f2 n2 q → u.heap.size ≤ b5 → Blk w b5 (stc r2 f2 n2) 47 → Q .normal { tmps := List.toArray (z0 :: z1 :: (.pointer (some ⟨b0, 0, none⟩)) :: z3 :: z4 :: (.pointer (some ⟨b5, 0, none⟩)) :: z6 :: z7 :: (.agg (stc (fun _ => 0) (fun _ => 0) 0)) :: (.slice (some ⟨b0, 0, none⟩) 128 128) :: (.agg (stc r2 f2 n2)) :: z11 :: z12 :: z13 :: z14 :: z15 :: z16 :: z17 :: z18 :: z19 :: z20 :: z21 :: z22 :: []), defers := [] } w) (b5 : Nat) (w : World) (hS : Below u.heap.size u w) (c5 : Blk w b5 (stc (fun _ => 0) (fun _ => 0) 0) 47) (h5 : u.heap.size ≤ b5) :
    wpAnyH Tryd.prog .any bhOps Q (fun w' => Below u.heap.size u w') 3 (List.toArray (false :: true :: false :: true :: false :: [])) { tmps := List.toArray (z0 :: z1 :: (.pointer (some ⟨b0, 0, none⟩)) :: z3 :: z4 :: (.pointer (some ⟨b5, 0, none⟩)) :: z6 :: z7 :: z8 :: (.slice (some ⟨b0, 0, none⟩) 128 128) :: z10 :: z11 :: z12 :: z13 :: z14 :: z15 :: z16 :: z17 :: z18 :: z19 :: z20 :: z21 :: z22 :: []), defers := [] } w := by
  refine wpAnyH_ready (rs := [0]) (by kernel_rfl) (by simp) ?_
  refine AllReadyH.cons (o := bhOp0) rfl (fun K hK => ?_) AllReadyH.nil
  unfold bhOp0
  go_simp
  refine (new_at _ w rfl).mono ?_
  rintro e x ⟨rfl, hb⟩
  dsimp only
  have hS' := keepCall hb rfl hS
  refine hK.out _ _ hS' (fun _ => ?_)
  clear hK K
  simp only [List.setIfInBounds_toArray, List.set_cons_zero]
  exact bh_2 Q hQ u z0 z1 z3 z4 z5 z6 z7 z8 z9 z10 z11 z12 z13 z14 z15 z16 z17 z18 z19 z20 z21 z22 q b0 HG HD hq Hq H b5 x hS' (c5.low hb) h5
set_option maxRecDepth 100000 in
set_option maxHeartbeats 1000000 in
theorem bh_5 (Q : Exit → Act → World → Prop) (hQ : ∀ c a w n v, Q (.panic c) (a.put (some n) v) w → Q (.panic c) a w) (u : World) (z0 z1 z3 z4 z5 z6 z7 z8 z9 z10 z11 z12 z13 z14 z15 z16 z17 z18 z19 z20 z21 z22 : Value) (q : List Nat) (b0 : Nat) (HG : Glob u) (HD : Rds u (some ⟨b0, 0, none⟩) q) (hq : q.length = 128) (Hq : ∀ x ∈ q, x < 256) (H : ∀ (r2 : Nat → Nat) (f2 : Nat → Nat) (n2 : Nat) (b5 : Nat) (w : World), Below u.heap.size u w → Rep r2 f2 n2 q → u.heap.size ≤ b5 → Blk w b5 (stc r2 f2 n2) 47 → Q .normal { tmps := List.toArray (z0 :: z1 :: (.pointer (some ⟨b0, 0, none⟩)) :: z3 :: z4 :: (.pointer (some ⟨b5, 0, none⟩)) :: z6 :: z7 :: (.agg (stc (fun _ => 0) (fun _ => 0) 0)) :: (.slice (some ⟨b0, 0, none⟩) 128 128) :: (.agg (stc r2 f2 n2)) :: z11 :: z12 :: z13 :: z14 :: z15 :: z16 :: z17 :: z18 :: z19 :: z20 :: z21 :: z22 :: []), defers := [] } w) (w : World) (hS : Below u.heap.size u w) :
    wpAnyH Tryd.prog .any bhOps Q (fun w' => Below u.heap.size u w') 3 (List.toArray (true :: true :: false :: false :: false :: [])) { tmps := List.toArray (z0 :: z1 :: (.pointer (some ⟨b0, 0, none⟩)) :: z3 :: z4 :: z5 :: z6 :: z7 :: (.agg (stc (fun _ => 0) (fun _ => 0) 0)) :: (.slice (some ⟨b0, 0, none⟩) 128 128) :: z10 :: z11 :: z12 :: z13 :: z14 :: z15 :: z16 :: z17 :: z18 :: z19 :: z20 :: z21 :: z22 :: []), defers := [] } w := by
  refine wpAnyH_ready (rs := [2, 3]) (by kernel_rfl) (by simp) ?_
  refine AllReadyH.cons (o := bhOp2) rfl (fun K hK => ?_) ?_
  · skip
    unfold bhOp2
    go_simp
    refine (write_at (fun _ => 0) (fun _ => 0) 0 [] q (some ⟨b0, 0, none⟩) 128 _ w (by rw [hq]) (HG.low hS) rep_none Hq (HD.low hS) (by omega) (by omega)).mono ?_
    rintro e x ⟨r2, f2, n2, rfl, hR2, hb⟩
    dsimp only
    have hS' := keepCall hb rfl hS
    refine hK.out _ _ hS' (fun _ => ?_)
    clear hK K
    simp only [List.setIfInBounds_toArray, List.set_cons_zero, List.set_cons_succ]
    exact bh_3 Q hQ u z0 z1 z3 z4 z5 z6 z7 z8 z9 z10 z11 z12 z13 z14 z15 z16 z17 z18 z19 z20 z21 z22 q b0 HG HD hq Hq H r2 f2 n2 x hS' (hR2)
  · refine AllReadyH.cons (o := bhOp3) rfl (fun K hK => ?_) AllReadyH.nil
    have hz := zero31
    have hb := (Below.refl w.heap.size w).alloc (Nat.le_refl _) (.cells (stc (fun _ => 0) (fun _ => 0) 0) 47)
    have hS' := keepCall hb rfl hS
    obtain ⟨b5, eb5⟩ : ∃ b, b = w.heap.size := ⟨_, rfl⟩
    have c5 : Blk (w.alloc (.cells (stc (fun _ => 0) (fun _ => 0) 0) 47)) b5 (stc (fun _ => 0) (fun _ => 0) 0) 47 := by rw [eb5]; exact Blk.new w _ _
    have h5 : u.heap.size ≤ b5 := by rw [eb5]; exact hS.size
    unfold bhOp3
    go_simp
    rw [← eb5]
    refine hK.out _ _ hS' (fun _ => ?_)
    clear hK K
    simp only [List.setIfInBounds_toArray, List.set_cons_zero, List.set_cons_succ]
    exact bh_2 Q hQ u z0 z1 z3 z4 z5 z6 z7 z8 z9 z10 z11 z12 z13 z14 z15 z16 z17 z18 z19 z20 z21 z22 q b0 HG HD hq Hq H b5 (w.alloc (.cells (stc (fun _ => 0) (fun _ => 0) 0) 47)) hS' c5 h5
set_option maxRecDepth 100000 in
set_option maxHeartbeats 1000000 in
theorem bh_6 (Q : Exit → Act → World → Prop) (hQ : ∀ c a w n v, Q (.panic c) (a.put (some n) v) w → Q (.panic c) a w) (u : World) (z0 z1 z3 z4 z5 z6 z7 z8 z9 z10 z11 z12 z13 z14 z15 z16 z17 z18 z19 z20 z21 z22 : Value) (q : List Nat) (b0 : Nat) (HG : Glob u) (HD : Rds u (some ⟨b0, 0, none⟩) q) (hq : q.length = 128) (Hq : ∀ x ∈ q, x < 256) (H : ∀ (r2 : Nat → Nat) (f2 : Nat → Nat) (n2 : Nat) (b5 : Nat) (w : World), Below u.heap.size u w → Rep r2 f2 n2 q → u.heap.size ≤ b5 → Blk w b5 (stc r2 f2 n2) 47 → Q .normal { tmps := List.toArray (z0 :: z1 :: (.pointer (some ⟨b0, 0, none⟩)) :: z3 :: z4 :: (.pointer (some ⟨b5, 0, none⟩)) :: z6 :: z7 :: (.agg (stc (fun _ => 0) (fun _ => 0) 0)) :: (.slice (some ⟨b0, 0, none⟩) 128 128) :: (.agg (stc r2 f2 n2)) :: z11 :: z12 :: z13 :: z14 :: z15 :: z16 :: z17 :: z18 :: z19 :: z20 :: z21 :: z22 :: []), defers := [] } w) (w : World) (hS : Below u.heap.size u w) :
    wpAnyH Tryd.prog .any bhOps Q (fun w' => Below u.heap.size u w') 4 (List.toArray (false :: true :: false :: false :: false :: [])) { tmps := List.toArray (z0 :: z1 :: (.pointer (some ⟨b0, 0, none⟩)) :: z3 :: z4 :: z5 :: z6 :: z7 :: z8 :: (.slice (some ⟨b0, 0, none⟩) 128 128) :: z10 :: z11 :: z12 :: z13 :: z14 :: z15 :: z16 :: z17 :: z18 :: z19 :: z20 :: z21 :: z22 :: []), defers := [] } w := by
  refine wpAnyH_ready (rs := [0, 3]) (by kernel_rfl) (by simp) ?_
  refine AllReadyH.cons (o := bhOp0) rfl (fun K hK => ?_) ?_
  · skip
    unfold bhOp0
    go_simp
    refine (new_at _ w rfl).mono ?_
    rintro e x ⟨rfl, hb⟩
    dsimp only
    have hS' := keepCall hb rfl hS
    refine hK.out _ _ hS' (fun _ => ?_)
    clear hK K
    simp only [List.setIfInBounds_toArray, List.set_cons_zero]
    exact bh_5 Q hQ u z0 z1 z3 z4 z5 z6 z7 z8 z9 z10 z11 z12 z13 z14 z15 z16 z17 z18 z19 z20 z21 z22 q b0 HG HD hq Hq H  x hS' 
  · refine AllReadyH.cons (o := bhOp3) rfl (fun K hK => ?_) AllReadyH.nil
    have hz := zero31
    have hb := (Below.refl w.heap.size w).alloc (Nat.le_refl _) (.cells (stc (fun _ => 0) (fun _ => 0) 0) 47)
    have hS' := keepCall hb rfl hS
    obtain ⟨b5, eb5⟩ : ∃ b, b = w.heap.size := ⟨_, rfl⟩
    have c5 : Blk (w.alloc (.cells (stc (fun _ => 0) (fun _ => 0) 0) 47)) b5 (stc (fun _ => 0) (fun _ => 0) 0) 47 := by rw [eb5]; exact Blk.new w _ _
    have h5 : u.heap.size ≤ b5 := by rw [eb5]; exact hS.size
    unfold bhOp3
    go_simp
    rw [← eb5]
    refine hK.out _ _ hS' (fun _ => ?_)
    clear hK K
    simp only [List.setIfInBounds_toArray, List.set_cons_zero, List.set_cons_succ]
    exact bh_4 Q hQ u z0 z1 z3 z4 z5 z6 z7 z8 z9 z10 z11 z12 z13 z14 z15 z16 z17 z18 z19 z20 z21 z22 q b0 HG HD hq Hq H b5 (w.alloc (.cells (stc (fun _ => 0) (fun _ => 0) 0) 47)) hS' c5 h5
set_option maxRecDepth 100000 in
set_option maxHeartbeats 1000000 in
theorem bh_region (Q : Exit → Act → World → Prop) (hQ : ∀ c a w n v, Q (.panic c) (a.put (some n) v) w → Q (.panic c) a w) (u : World) (z0 z1 z3 z4 z5 z6 z7 z8 z9 z10 z11 z12 z13 z14 z15 z16 z17 z18 z19 z20 z21 z22 : Value) (q : List Nat) (b0 : Nat) (HG : Glob u) (HD : Rds u (some ⟨b0, 0, none⟩) q) (hq : q.length = 128) (Hq : ∀ x ∈ q, x < 256) (H : ∀ (r2 : Nat → Nat) (f2 : Nat → Nat) (n2 : Nat) (b5 : Nat) (w : World), Below u.heap.size u w → Rep r2 f2 n2 q → u.heap.size ≤ b5 → Blk w b5 (stc r2 f2 n2) 47 → Q .normal { tmps := List.toArray (z0 :: z1 :: (.pointer (some ⟨b0, 0, none⟩)) :: z3 :: z4 :: (.pointer (some ⟨b5, 0, none⟩)) :: z6 :: z7 :: (.agg (stc (fun _ => 0) (fun _ => 0) 0)) :: (.slice (some ⟨b0, 0, none⟩) 128 128) :: (.agg (stc r2 f2 n2)) :: z11 :: z12 :: z13 :: z14 :: z15 :: z16 :: z17 :: z18 :: z19 :: z20 :: z21 :: z22 :: []), defers := [] } w) :
    (Code.region 1 bhOps true).wp Tryd.prog Q { tmps := List.toArray (z0 :: z1 :: (.pointer (some ⟨b0, 0, none⟩)) :: z3 :: z4 :: z5 :: z6 :: z7 :: z8 :: z9 :: z10 :: z11 :: z12 :: z13 :: z14 :: z15 :: z16 :: z17 :: z18 :: z19 :: z20 :: z21 :: z22 :: []), defers := [] } u := by
  refine wp_region_held_drew (S := (fun w' => Below u.heap.size u w')) (by kernel_rfl) (Below.refl _ _).drew (fun hS => ?_)
  refine wpAnyH_take (i := 1) (oi := bhOp1) (v := .slice (some ⟨b0, 0, none⟩) 128 128) rfl (by kernel_rfl) (by kernel_rfl) (by kernel_rfl) (fun _ _ _ => hQ _ _ _ _ _) (Or.inl ⟨by rfl, fun w hSw => by unfold bhOp1; go_simp⟩) hS ?_
  try simp only [bhOp1, Act.put, List.setIfInBounds_toArray, List.set_cons_zero, List.set_cons_succ]
  exact bh_6 Q hQ u z0 z1 z3 z4 z5 z6 z7 z8 z9 z10 z11 z12 z13 z14 z15 z16 z17 z18 z19 z20 z21 z22 q b0 HG HD hq Hq H u.drew hS
set_option maxRecDepth 100000 in
set_option maxHeartbeats 1000000 in
theorem behind_any (f0 : Nat → Nat) (P : Option Addr) (ps : List Pt) (pcap : Nat) (w : World) (hG : Glob w) (hf : ∀ i, f0 i < 256) (hP : Prt w P ps) (hO : PtOk w ps) (hs : (cat ps).length < 2 ^ 59) (hp : ps.length < 2 ^ 62) :
    Calls Tryd.prog 19 #[.agg (vals .u8 128 f0), .slice P ps.length pcap] w fun e w' => e = .returned (.agg (vals .u8 64 (dg ((List.range 128).map f0 ++ cat ps)))) ∧ Below w.heap.size w w' := by
  have HG := hide hG
  have HP := hide hP
  have HO := hide hO
  have Hs := hide hs
  have Hp := hide hp
  have hz1 := zero24
  clear hG hP hO hs hp
  obtain ⟨q, hq⟩ : ∃ q, q = (List.range 128).map f0 := ⟨_, rfl⟩
  rw [← hq]
  have Hql : Hid (q.length = 128) := hide (by rw [hq]; simp)
  have Hq2 : Hid (∀ x ∈ q, x < 256) := hide (fun x hx => by rw [hq] at hx; obtain ⟨i, _, rfl⟩ := List.mem_map.1 hx; exact hf i)
  have Hq := hide hq
  clear hq hf
  go_enter Tryd.func19, Tryd.ntmps19
  go_upto_region 1 with (fail)
  have B0 := hide ((Blk.new w (vals .u8 128 f0) 37).alloc (.cells (vals .u8 64 (fun _ => 0)) 27))
  have B1 := hide (Blk.new' (w.alloc (.cells (vals .u8 128 f0) 37)) (w.heap.size + 1) (by simp) (vals .u8 64 (fun _ => 0)) 27)
  have L0 := hide (((Below.refl _ w).alloc (Nat.le_refl _) (.cells (vals .u8 128 f0) 37)).alloc (by simp) (.cells (vals .u8 64 (fun _ => 0)) 27))
  clear hz1
  generalize (w.alloc (.cells (vals .u8 128 f0) 37)).alloc (.cells (vals .u8 64 (fun _ => 0)) 27) = w1 at *
  have HD := hide (rds_vals B0.out)
  rw [← Hq.out] at HD
  refine bh_region _ (fun _ _ _ _ _ h => h) w1 _ _ _ _ _ _ _ _ _ _ _ _ _ _ _ _ _ _ _ _ _ _ q w.heap.size (HG.out.low L0.out) HD.out Hql.out Hq2.out ?_
  intro r2 f2 n2 bs w2 hb hR h5 Bs
  have B3 := hide Bs
  have HR0 := hide hR
  have B2 := hide (B1.out.call hb)
  have L2 := hide (L0.out.trans (hb.mono L0.out.size))
  have Hlt : Hid (w.heap.size + 1 < bs) := hide (Nat.lt_of_lt_of_le B1.out.lt h5)
  clear Bs hR hb h5 B0 B1 L0 HD
  go_wp2
  go_loopw [13] (fun i wr => ∃ (k : Nat) (r f : Nat → Nat) (n : Nat), k ≤ ps.length ∧ i = .int .i64 k ∧ Rep r f n (q ++ cat (ps.take k)) ∧ Blk wr bs (stc r f n) 47 ∧ Blk wr (w.heap.size + 1) (vals .u8 64 (fun _ => 0)) 27 ∧ Below w.heap.size w wr) (fun i _ => ps.length - (intOf i).toNat)
  case atStart => exact ⟨0, _, _, _, by omega, rfl, by rw [List.take_zero, show cat [] = [] from rfl, List.append_nil]; exact HR0.out, B3.out, B2.out, L2.out⟩
  case round =>
    clear B3 B2 L2 HR0
    obtain ⟨k, r, f, n, hk, rfl, hR, Bs, Bz, L⟩ := hrel
    have HR := hide hR
    have HBs := hide Bs
    have HBz := hide Bz
    have HL := hide L
    clear hR Bs Bz L
    by_cases hlt : k < ps.length
    · obtain ⟨p, hp⟩ : ∃ p, ps[k]? = some p := ⟨_, List.getElem?_eq_getElem hlt⟩
      obtain ⟨a, rfl, hab, hac⟩ : ∃ a, P = some a ∧ a.block < w.heap.size ∧ ∀ (i : Nat) (q : Pt), ps[i]? = some q → w.cell? (a.add i) = some (.slice q.1 q.2.1.length q.2.2) := by
        rcases HP.out with h | h
        · rw [h] at hlt; simp at hlt
        · exact h
      have hcell : wr.cell? (a.add k) = some (.slice p.1 p.2.1.length p.2.2) := by
        rw [HL.out.cell (p := a.add k) (by rw [add_block]; exact hab)]; exact hac k p hp
      obtain ⟨pa, hpa⟩ : ∃ pa, pa = a.add k := ⟨_, rfl⟩
      obtain ⟨A, l, cp⟩ := p
      have hO := HO.out _ (List.mem_of_getElem? hp)
      have HO' := hide hO
      have Hp2 := hide hp
      dsimp only at hcell HO'
      clear hac hab hO hp
      have hk0 : (0 : Int) ≤ (k : Int) := by omega
      have hkl : (k : Int) < (ps.length : Int) := by omega
      have Hsz : Hid (n + l.length < 2 ^ 61) := hide (by have h1 := cat_len ps k _ Hp2.out; have h2 := HR.out.len; have := Hs.out; have := Hql.out; rw [List.length_append] at h2; dsimp only at h1; omega)
      have Hct : Hid (cat (ps.take (k + 1)) = cat (ps.take k) ++ l) := hide (cat_succ ps k _ Hp2.out)
      have hkm : IntKind.i64.wrap ((k : Int) + 1) = (k : Int) + 1 := by
        have := Hp.out
        simp [IntKind.wrap, IntKind.bits, IntKind.signed]; omega
      go_wp2_with (first
        | (refine wpList_load_row rfl 47 _ rfl bs rfl 47 _ (0, 0) _ HBs.out Tryd.underlying47 rfl (by rw [stc_size]; exact cells31) ?_)
        | (go_at_call 24; refine (write_at r f n (q ++ cat (ps.take k)) l A cp _ _ rfl (HG.out.low HL.out) HR.out HO'.out.2.2 (HO'.out.1.low HL.out) HO'.out.2.1 Hsz.out).mono ?_; rintro e w4 ⟨r2, f2, n2, rfl, hR2, hb⟩; have B5 := hide (HBs.out.call hb); have B6 := hide (HBz.out.call hb); have L5 := hide (HL.out.trans (hb.mono HL.out.size)); have HR2 := hide hR2; clear hb hR2; dsimp only)
        | (refine wpList_store_row rfl 47 _ _ rfl bs (stc r2 f2 n2) rfl rfl 47 _ B5.out (by rw [stc_size]; exact cells31) (by rw [stc_size, stc_size]) (stc_one _ _ _) ?_))
      go_roundw
      case rel => exact ⟨k + 1, r2, f2, n2, by omega, by go_num, by rw [Hct.out, ← List.append_assoc]; exact HR2.out, B5.out.row _, B6.out.rowOther _ (Nat.ne_of_gt Hlt.out), Below.row L5.out (Nat.le_of_lt (Nat.lt_of_succ_lt Hlt.out)) _⟩
      case measure => simp [intOf]; omega
    · have e4 : k = ps.length := by omega
      subst e4
      have Hall : Hid (cat (ps.take ps.length) = cat ps) := hide (by rw [List.take_length])
      have HRa : Hid (Rep r f n (q ++ cat ps)) := hide (by rw [← Hall.out]; exact HR.out)
      have Hsz : Hid (n < 2 ^ 60) := hide (by have h2 := HRa.out.len; have := Hs.out; have := Hql.out; rw [List.length_append] at h2; omega)
      go_wp2_with (first
        | (refine wpList_load_row rfl 47 _ rfl bs rfl 47 _ (0, 0) _ HBs.out Tryd.underlying47 rfl (by rw [stc_size]; exact cells31) ?_)
        | (go_at_call 25; refine (sum_at r f n (q ++ cat ps) _ _ rfl (HG.out.low HL.out) HRa.out Hsz.out).mono ?_; rintro e w4 ⟨rfl, hb⟩; have B6 := hide (HBz.out.call hb); have L5 := hide (HL.out.trans (hb.mono HL.out.size)); clear hb; dsimp only)
        | (refine wpList_store_row rfl 27 _ _ rfl (w.heap.size + 1) (vals .u8 64 (dg (q ++ cat ps))) rfl rfl 27 _ B6.out (by rw [vals_size]; exact cells24) (by rw [vals_size, vals_size]) (vals_one _ _ _) ?_))
      refine bodyPost_ret (v := .agg (vals .u8 64 (dg (q ++ cat ps)))) (results_cell_row Tryd.results19 _ _ (w.heap.size + 1) 27 _ (0, 0) _ rfl (B6.out.row _) Tryd.underlying27 rfl (by rw [vals_size]; exact cells24)) rfl ⟨rfl, ?_⟩
      exact Below.row L5.out (Nat.le_succ _) _
theorem behind_at (g : Nat → Nat) (P : Option Addr) (ps : List Pt) (pcap : Nat) (args : Array Value) (w : World) (h : args = #[.agg (vals .u8 128 g), .slice P ps.length pcap]) (hG : Glob w) (hf : ∀ i, g i < 256) (hP : Prt w P ps) (hO : PtOk w ps) (hs : (cat ps).length < 2 ^ 59) (hp : ps.length < 2 ^ 62) :
    Calls Tryd.prog 19 args w fun e w' => e = .returned (.agg (vals .u8 64 (dg ((List.range 128).map g ++ cat ps)))) ∧ Below w.heap.size w w' := by
  subst h; exact behind_any g P ps pcap w hG hf hP hO hs hp
theorem behind_one (o g : Nat → Nat) (A : Option Addr) (l : List Nat) (cap b : Nat) (t : TypeId) (args : Array Value) (w : World) (ho : o = dg ((List.range 128).map g ++ l)) (h : args = #[.agg (vals .u8 128 g), .slice (some ⟨b, 0, none⟩) 1 1]) (hB : Blk w b #[.slice A l.length cap] t) (hG : Glob w) (hg : ∀ i, g i < 256) (hA : Rds w A l) (hc : l.length ≤ cap) (hl : ∀ x ∈ l, x < 256) (hs : l.length < 2 ^ 59) :
    Calls Tryd.prog 19 args w fun e w' => e = .returned (.agg (vals .u8 64 o)) ∧ Below w.heap.size w w' := by
  subst h
  have e : cat [(A, l, cap)] = l := by simp [cat]
  have := behind_at g (some ⟨b, 0, none⟩) [(A, l, cap)] 1 _ w rfl hG hg (prt_blk hB _ fun i q hq => by
    rcases i with _ | i
    · obtain rfl := Option.some.inj hq; rfl
    · cases hq) (fun q hq => by
    obtain rfl : q = (A, l, cap) := by simpa using hq
    exact ⟨hA, hc, hl⟩) (by rw [e]; exact hs) (by simp)
  rw [e] at this
  rw [ho]
  exact this
end Go.Proofs.YtjnjedannpnjiaaDoor

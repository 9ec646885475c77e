/- ShaRoots' walk: for all numbers and bytes the law returns true. -/
import Derived.Test.YtplckpmicoohnaaDoorLn
import Derived.Test.YtplckpmicoohnaaDoorRd
import Derived.Test.YtplckpmicoohnaaDoorNe
namespace Go.Proofs.YtplckpmicoohnaaDoor
open Go.RowKit

theorem Blk.low {w w' : World} {b : Nat} {c : Array Value} {t : TypeId} (h : Blk w b c t) (hb : Below w.heap.size w w') : Blk w' b c t := h.call hb
def raOp0 : Oper := { dst := some 19, op := Op.move (Operand.tmp 5), type := 4, pos := "law.go:33", after := #[], guard := none }
def raOp1 : Oper := { dst := some 20, op := Op.move (Operand.tmp 19), type := 4, pos := "law.go:33", after := #[{ on := 0, ground := Ground.data }], guard := none }
def raOp2 : Oper := { dst := some 21, op := Op.move (Operand.tmp 7), type := 3, pos := "law.go:33", after := #[{ on := 1, ground := Ground.guard }], guard := some (1, true) }
def raOp3 : Oper := { dst := some 22, op := Op.indexAddr 36 (Operand.tmp 6) (Operand.tmp 21), type := 0, pos := "law.go:33", after := #[{ on := 2, ground := Ground.data }, { on := 1, ground := Ground.guard }], guard := some (1, true) }
def raOp4 : Oper := { dst := some 23, op := Op.load 27 (Operand.tmp 22), type := 27, pos := "law.go:33", after := #[{ on := 3, ground := Ground.data }, { on := 1, ground := Ground.guard }], guard := some (1, true) }
def raOp5 : Oper := { dst := some 24, op := Op.move (Operand.tmp 7), type := 3, pos := "law.go:33", after := #[{ on := 1, ground := Ground.guard }], guard := some (1, true) }
def raOp6 : Oper := { dst := some 25, op := Op.call { callee := Callee.value (Operand.func 17), args := #[Operand.tmp 24], argTypes := #[3] }, type := 27, pos := "law.go:33", after := #[{ on := 5, ground := Ground.data }, { on := 1, ground := Ground.chain }, { on := 1, ground := Ground.guard }], guard := some (1, true) }
def raOp7 : Oper := { dst := some 26, op := Op.call { callee := Callee.value (Operand.func 16), args := #[Operand.tmp 25, Operand.const (Value.bool true)], argTypes := #[27, 4] }, type := 27, pos := "law.go:33", after := #[{ on := 6, ground := Ground.data }, { on := 6, ground := Ground.chain }, { on := 1, ground := Ground.guard }], guard := some (1, true) }
def raOp8 : Oper := { dst := some 27, op := Op.binOp BinOp.eql 27 (Operand.tmp 23) (Operand.tmp 26) 27, type := 4, pos := "law.go:33", after := #[{ on := 4, ground := Ground.data }, { on := 7, ground := Ground.data }, { on := 1, ground := Ground.guard }], guard := some (1, true) }
def raOp9 : Oper := { dst := some 28, op := Op.pick (Operand.tmp 20) (Operand.tmp 27) (Operand.const (Value.bool false)), type := 4, pos := "law.go:33", after := #[{ on := 1, ground := Ground.data }, { on := 8, ground := Ground.data }], guard := none }
def raOp10 : Oper := { dst := some 29, op := Op.move (Operand.tmp 28), type := 4, pos := "law.go:33", after := #[{ on := 9, ground := Ground.data }, { on := 7, ground := Ground.chain }], guard := none }
def raOp11 : Oper := { dst := some 30, op := Op.move (Operand.tmp 1), type := 22, pos := "law.go:33", after := #[{ on := 10, ground := Ground.guard }], guard := some (10, true) }
def raOp12 : Oper := { dst := some 31, op := Op.load 28 (Operand.tmp 8), type := 28, pos := "law.go:33", after := #[{ on := 10, ground := Ground.guard }], guard := some (10, true) }
def raOp13 : Oper := { dst := some 32, op := Op.load 36 (Operand.tmp 6), type := 36, pos := "law.go:33", after := #[{ on := 10, ground := Ground.guard }], guard := some (10, true) }
def raOp14 : Oper := { dst := some 33, op := Op.call { callee := Callee.value (Operand.func 18), args := #[Operand.tmp 30, Operand.tmp 31, Operand.tmp 32], argTypes := #[22, 28, 36] }, type := 24, pos := "law.go:33", after := #[{ on := 11, ground := Ground.data }, { on := 12, ground := Ground.data }, { on := 13, ground := Ground.data }, { on := 10, ground := Ground.chain }, { on := 10, ground := Ground.guard }], guard := some (10, true) }
def raOp15 : Oper := { dst := some 34, op := Op.move (Operand.tmp 1), type := 22, pos := "law.go:33", after := #[{ on := 10, ground := Ground.guard }], guard := some (10, true) }
def raOp16 : Oper := { dst := some 35, op := Op.buildSlice 44 1 #[(0, Operand.tmp 34)], type := 44, pos := "law.go:33", after := #[{ on := 15, ground := Ground.data }, { on := 10, ground := Ground.guard }], guard := some (10, true) }
def raOp17 : Oper := { dst := some 36, op := Op.call { callee := Callee.value (Operand.func 9), args := #[Operand.tmp 35], argTypes := #[44] }, type := 24, pos := "law.go:33", after := #[{ on := 16, ground := Ground.data }, { on := 14, ground := Ground.chain }, { on := 10, ground := Ground.guard }], guard := some (10, true) }
def raOp18 : Oper := { dst := some 37, op := Op.binOp BinOp.eql 24 (Operand.tmp 33) (Operand.tmp 36) 24, type := 4, pos := "law.go:33", after := #[{ on := 14, ground := Ground.data }, { on := 17, ground := Ground.data }, { on := 10, ground := Ground.guard }], guard := some (10, true) }
def raOp19 : Oper := { dst := some 38, op := Op.pick (Operand.tmp 29) (Operand.tmp 37) (Operand.const (Value.bool false)), type := 4, pos := "law.go:33", after := #[{ on := 10, ground := Ground.data }, { on := 18, ground := Ground.data }], guard := none }
def raOp20 : Oper := { dst := some 4, op := Op.assign (Operand.tmp 38), type := 4, pos := "law.go:33", after := #[{ on := 19, ground := Ground.data }, { on := 17, ground := Ground.chain }, { on := 0, ground := Ground.phase }, { on := 1, ground := Ground.phase }, { on := 2, ground := Ground.phase }, { on := 3, ground := Ground.phase }, { on := 4, ground := Ground.phase }, { on := 5, ground := Ground.phase }, { on := 6, ground := Ground.phase }, { on := 7, ground := Ground.phase }, { on := 8, ground := Ground.phase }, { on := 9, ground := Ground.phase }, { on := 10, ground := Ground.phase }, { on := 11, ground := Ground.phase }, { on := 12, ground := Ground.phase }, { on := 13, ground := Ground.phase }, { on := 14, ground := Ground.phase }, { on := 15, ground := Ground.phase }, { on := 16, ground := Ground.phase }, { on := 17, ground := Ground.phase }, { on := 18, ground := Ground.phase }, { on := 19, ground := Ground.phase }], guard := none }
def raOps : Array Oper := #[raOp0, raOp1, raOp2, raOp3, raOp4, raOp5, raOp6, raOp7, raOp8, raOp9, raOp10, raOp11, raOp12, raOp13, raOp14, raOp15, raOp16, raOp17, raOp18, raOp19, raOp20]
set_option maxRecDepth 100000 in
set_option maxHeartbeats 1000000 in
theorem ra_0 (Q : Exit → Act → World → Prop) (hQ : ∀ c a w n v, Q (.panic c) (a.put (some n) v) w → Q (.panic c) a w) (u : World) (z0 z2 z3 z4 z9 z10 z11 z12 z13 z14 z15 z16 z17 z18 z19 z20 z21 z22 z23 z24 z25 z26 z27 z28 z29 z30 z31 z32 z33 z34 z35 z36 z37 z38 : Value) (bk bh i cp : Nat) (l : List Nat) (A : Option Addr) (HG : Glob u) (HK : Blk u bk (arr 80 kc) 36) (HH : Blk u bh (arr 8 hc) 28) (hi : i < 80) (HA : Rds u A l) (Hc : l.length ≤ cp) (Hx : ∀ x ∈ l, x < 256) (hl : l.length ≤ 300) (H : ∀ (b : Nat) (w : World), Below u.heap.size u w → Blk w b #[.slice A l.length cp] 22 → Q .normal { tmps := List.toArray (z0 :: (.slice A l.length cp) :: z2 :: z3 :: ((.bool true)) :: ((.bool true)) :: (.pointer (some ⟨bk, 0, none⟩)) :: (.int .i64 (i : Nat)) :: (.pointer (some ⟨bh, 0, none⟩)) :: z9 :: z10 :: z11 :: z12 :: z13 :: z14 :: z15 :: z16 :: z17 :: z18 :: ((.bool true)) :: ((.bool true)) :: (.int .i64 (i : Nat)) :: (.pointer (some ⟨bk, i, none⟩)) :: (.int .u64 (kc i : Nat)) :: (.int .i64 (i : Nat)) :: (.int .u64 (pr i : Nat)) :: (.int .u64 (kc i : Nat)) :: ((.bool true)) :: ((.bool true)) :: ((.bool true)) :: (.slice A l.length cp) :: (.agg (arr 8 hc)) :: (.agg (arr 80 kc)) :: (.agg (vals .u8 64 (dg l))) :: (.slice A l.length cp) :: (.slice (some ⟨b, 0, none⟩) 1 1) :: (.agg (vals .u8 64 (dg l))) :: ((.bool true)) :: ((.bool true)) :: []), defers := [] } w) (b : Nat) (w : World) (hS : Below u.heap.size u w) (cB : Blk w b #[.slice A l.length cp] 22) :
    wpAnyH Tryd.prog .any raOps Q (fun w' => Below u.heap.size u w') 0 (List.toArray (true :: true :: true :: true :: true :: true :: true :: true :: true :: true :: true :: true :: true :: true :: true :: true :: true :: true :: true :: true :: true :: [])) { tmps := List.toArray (z0 :: (.slice A l.length cp) :: z2 :: z3 :: ((.bool true)) :: ((.bool true)) :: (.pointer (some ⟨bk, 0, none⟩)) :: (.int .i64 (i : Nat)) :: (.pointer (some ⟨bh, 0, none⟩)) :: z9 :: z10 :: z11 :: z12 :: z13 :: z14 :: z15 :: z16 :: z17 :: z18 :: ((.bool true)) :: ((.bool true)) :: (.int .i64 (i : Nat)) :: (.pointer (some ⟨bk, i, none⟩)) :: (.int .u64 (kc i : Nat)) :: (.int .i64 (i : Nat)) :: (.int .u64 (pr i : Nat)) :: (.int .u64 (kc i : Nat)) :: ((.bool true)) :: ((.bool true)) :: ((.bool true)) :: (.slice A l.length cp) :: (.agg (arr 8 hc)) :: (.agg (arr 80 kc)) :: (.agg (vals .u8 64 (dg l))) :: (.slice A l.length cp) :: (.slice (some ⟨b, 0, none⟩) 1 1) :: (.agg (vals .u8 64 (dg l))) :: ((.bool true)) :: ((.bool true)) :: []), defers := [] } w := by
  have _ := hQ
  have _ := u
  have _ := z0
  have _ := z2
  have _ := z3
  have _ := z4
  have _ := z9
  have _ := z10
  have _ := z11
  have _ := z12
  have _ := z13
  have _ := z14
  have _ := z15
  have _ := z16
  have _ := z17
  have _ := z18
  have _ := z19
  have _ := z20
  have _ := z21
  have _ := z22
  have _ := z23
  have _ := z24
  have _ := z25
  have _ := z26
  have _ := z27
  have _ := z28
  have _ := z29
  have _ := z30
  have _ := z31
  have _ := z32
  have _ := z33
  have _ := z34
  have _ := z35
  have _ := z36
  have _ := z37
  have _ := z38
  have _ := bk
  have _ := bh
  have _ := i
  have _ := cp
  have _ := l
  have _ := A
  have _ := HG
  have _ := HK
  have _ := HH
  have _ := hi
  have _ := HA
  have _ := Hc
  have _ := Hx
  have _ := hl
  exact wpAnyH_done (by kernel_rfl) (H b w hS cB) _
set_option maxRecDepth 100000 in
set_option maxHeartbeats 1000000 in
theorem ra_1 (Q : Exit → Act → World → Prop) (hQ : ∀ c a w n v, Q (.panic c) (a.put (some n) v) w → Q (.panic c) a w) (u : World) (z0 z2 z3 z4 z9 z10 z11 z12 z13 z14 z15 z16 z17 z18 z19 z20 z21 z22 z23 z24 z25 z26 z27 z28 z29 z30 z31 z32 z33 z34 z35 z36 z37 z38 : Value) (bk bh i cp : Nat) (l : List Nat) (A : Option Addr) (HG : Glob u) (HK : Blk u bk (arr 80 kc) 36) (HH : Blk u bh (arr 8 hc) 28) (hi : i < 80) (HA : Rds u A l) (Hc : l.length ≤ cp) (Hx : ∀ x ∈ l, x < 256) (hl : l.length ≤ 300) (H : ∀ (b : Nat) (w : World), Below u.heap.size u w → Blk w b #[.slice A l.length cp] 22 → Q .normal { tmps := List.toArray (z0 :: (.slice A l.length cp) :: z2 :: z3 :: ((.bool true)) :: ((.bool true)) :: (.pointer (some ⟨bk, 0, none⟩)) :: (.int .i64 (i : Nat)) :: (.pointer (some ⟨bh, 0, none⟩)) :: z9 :: z10 :: z11 :: z12 :: z13 :: z14 :: z15 :: z16 :: z17 :: z18 :: ((.bool true)) :: ((.bool true)) :: (.int .i64 (i : Nat)) :: (.pointer (some ⟨bk, i, none⟩)) :: (.int .u64 (kc i : Nat)) :: (.int .i64 (i : Nat)) :: (.int .u64 (pr i : Nat)) :: (.int .u64 (kc i : Nat)) :: ((.bool true)) :: ((.bool true)) :: ((.bool true)) :: (.slice A l.length cp) :: (.agg (arr 8 hc)) :: (.agg (arr 80 kc)) :: (.agg (vals .u8 64 (dg l))) :: (.slice A l.length cp) :: (.slice (some ⟨b, 0, none⟩) 1 1) :: (.agg (vals .u8 64 (dg l))) :: ((.bool true)) :: ((.bool true)) :: []), defers := [] } w) (b : Nat) (w : World) (hS : Below u.heap.size u w) (cB : Blk w b #[.slice A l.length cp] 22) :
    wpAnyH Tryd.prog .any raOps Q (fun w' => Below u.heap.size u w') 4 (List.toArray (true :: true :: true :: true :: true :: true :: true :: true :: true :: true :: true :: true :: true :: true :: true :: true :: true :: false :: false :: false :: false :: [])) { tmps := List.toArray (z0 :: (.slice A l.length cp) :: z2 :: z3 :: z4 :: ((.bool true)) :: (.pointer (some ⟨bk, 0, none⟩)) :: (.int .i64 (i : Nat)) :: (.pointer (some ⟨bh, 0, none⟩)) :: z9 :: z10 :: z11 :: z12 :: z13 :: z14 :: z15 :: z16 :: z17 :: z18 :: ((.bool true)) :: ((.bool true)) :: (.int .i64 (i : Nat)) :: (.pointer (some ⟨bk, i, none⟩)) :: (.int .u64 (kc i : Nat)) :: (.int .i64 (i : Nat)) :: (.int .u64 (pr i : Nat)) :: (.int .u64 (kc i : Nat)) :: ((.bool true)) :: ((.bool true)) :: ((.bool true)) :: (.slice A l.length cp) :: (.agg (arr 8 hc)) :: (.agg (arr 80 kc)) :: (.agg (vals .u8 64 (dg l))) :: (.slice A l.length cp) :: (.slice (some ⟨b, 0, none⟩) 1 1) :: z36 :: z37 :: z38 :: []), defers := [] } w := by
  refine wpAnyH_ready (rs := [17]) (by kernel_rfl) (by simp) ?_
  refine AllReadyH.cons (o := raOp17) rfl (fun K hK => ?_) AllReadyH.nil
  unfold raOp17
  go_simp
  refine (all_one A l cp b 22 _ w (by rfl) cB (HG.low hS) (HA.low hS) Hc Hx (by omega)).mono ?_
  rintro e x ⟨rfl, hb⟩
  dsimp only
  have hS' := keepCall hb rfl hS
  refine hK.out _ _ hS' (fun _ => ?_)
  clear hK K
  simp only [List.setIfInBounds_toArray, List.set_cons_zero, List.set_cons_succ]
  refine wpAnyH_take (i := 18) (oi := raOp18) (v := (.bool true)) rfl (by kernel_rfl) (by kernel_rfl) (by kernel_rfl) (fun _ _ _ => hQ _ _ _ _ _) (Or.inl ⟨by rfl, fun w hSw => by have h0 := eq_self (dg l); unfold raOp18; go_simp⟩) hS' ?_
  try simp only [raOp18, Act.put, List.setIfInBounds_toArray, List.set_cons_zero, List.set_cons_succ]
  refine wpAnyH_take (i := 19) (oi := raOp19) (v := (.bool true)) rfl (by kernel_rfl) (by kernel_rfl) (by kernel_rfl) (fun _ _ _ => hQ _ _ _ _ _) (Or.inl ⟨by rfl, fun w hSw => by unfold raOp19; go_simp⟩) hS' ?_
  try simp only [raOp19, Act.put, List.setIfInBounds_toArray, List.set_cons_zero, List.set_cons_succ]
  refine wpAnyH_take (i := 20) (oi := raOp20) (v := (.bool true)) rfl (by kernel_rfl) (by kernel_rfl) (by kernel_rfl) (fun _ _ _ => hQ _ _ _ _ _) (Or.inl ⟨by rfl, fun w hSw => by unfold raOp20; go_simp⟩) hS' ?_
  try simp only [raOp20, Act.put, List.setIfInBounds_toArray, List.set_cons_zero, List.set_cons_succ]
  exact ra_0 Q hQ u z0 z2 z3 z4 z9 z10 z11 z12 z13 z14 z15 z16 z17 z18 z19 z20 z21 z22 z23 z24 z25 z26 z27 z28 z29 z30 z31 z32 z33 z34 z35 z36 z37 z38 bk bh i cp l A HG HK HH hi HA Hc Hx hl H b x hS' (cB.low hb)
set_option maxRecDepth 100000 in
set_option maxHeartbeats 1000000 in
theorem ra_2 (Q : Exit → Act → World → Prop) (hQ : ∀ c a w n v, Q (.panic c) (a.put (some n) v) w → Q (.panic c) a w) (u : World) (z0 z2 z3 z4 z9 z10 z11 z12 z13 z14 z15 z16 z17 z18 z19 z20 z21 z22 z23 z24 z25 z26 z27 z28 z29 z30 z31 z32 z33 z34 z35 z36 z37 z38 : Value) (bk bh i cp : Nat) (l : List Nat) (A : Option Addr) (HG : Glob u) (HK : Blk u bk (arr 80 kc) 36) (HH : Blk u bh (arr 8 hc) 28) (hi : i < 80) (HA : Rds u A l) (Hc : l.length ≤ cp) (Hx : ∀ x ∈ l, x < 256) (hl : l.length ≤ 300) (H : ∀ (b : Nat) (w : World), Below u.heap.size u w → Blk w b #[.slice A l.length cp] 22 → Q .normal { tmps := List.toArray (z0 :: (.slice A l.length cp) :: z2 :: z3 :: ((.bool true)) :: ((.bool true)) :: (.pointer (some ⟨bk, 0, none⟩)) :: (.int .i64 (i : Nat)) :: (.pointer (some ⟨bh, 0, none⟩)) :: z9 :: z10 :: z11 :: z12 :: z13 :: z14 :: z15 :: z16 :: z17 :: z18 :: ((.bool true)) :: ((.bool true)) :: (.int .i64 (i : Nat)) :: (.pointer (some ⟨bk, i, none⟩)) :: (.int .u64 (kc i : Nat)) :: (.int .i64 (i : Nat)) :: (.int .u64 (pr i : Nat)) :: (.int .u64 (kc i : Nat)) :: ((.bool true)) :: ((.bool true)) :: ((.bool true)) :: (.slice A l.length cp) :: (.agg (arr 8 hc)) :: (.agg (arr 80 kc)) :: (.agg (vals .u8 64 (dg l))) :: (.slice A l.length cp) :: (.slice (some ⟨b, 0, none⟩) 1 1) :: (.agg (vals .u8 64 (dg l))) :: ((.bool true)) :: ((.bool true)) :: []), defers := [] } w) (b : Nat) (w : World) (hS : Below u.heap.size u w) (cB : Blk w b #[.slice A l.length cp] 22) :
    wpAnyH Tryd.prog .any raOps Q (fun w' => Below u.heap.size u w') 5 (List.toArray (true :: true :: true :: true :: true :: true :: true :: true :: true :: true :: true :: true :: true :: true :: false :: true :: true :: false :: false :: false :: false :: [])) { tmps := List.toArray (z0 :: (.slice A l.length cp) :: z2 :: z3 :: z4 :: ((.bool true)) :: (.pointer (some ⟨bk, 0, none⟩)) :: (.int .i64 (i : Nat)) :: (.pointer (some ⟨bh, 0, none⟩)) :: z9 :: z10 :: z11 :: z12 :: z13 :: z14 :: z15 :: z16 :: z17 :: z18 :: ((.bool true)) :: ((.bool true)) :: (.int .i64 (i : Nat)) :: (.pointer (some ⟨bk, i, none⟩)) :: (.int .u64 (kc i : Nat)) :: (.int .i64 (i : Nat)) :: (.int .u64 (pr i : Nat)) :: (.int .u64 (kc i : Nat)) :: ((.bool true)) :: ((.bool true)) :: ((.bool true)) :: (.slice A l.length cp) :: (.agg (arr 8 hc)) :: (.agg (arr 80 kc)) :: z33 :: (.slice A l.length cp) :: (.slice (some ⟨b, 0, none⟩) 1 1) :: z36 :: z37 :: z38 :: []), defers := [] } w := by
  refine wpAnyH_ready (rs := [14]) (by kernel_rfl) (by simp) ?_
  refine AllReadyH.cons (o := raOp14) rfl (fun K hK => ?_) AllReadyH.nil
  unfold raOp14
  go_simp
  refine (sumBy_at A l cp _ w (by rfl) (HA.low hS) Hc Hx (by omega)).mono ?_
  rintro e x ⟨rfl, hb⟩
  dsimp only
  have hS' := keepCall hb rfl hS
  refine hK.out _ _ hS' (fun _ => ?_)
  clear hK K
  simp only [List.setIfInBounds_toArray, List.set_cons_zero, List.set_cons_succ]
  exact ra_1 Q hQ u z0 z2 z3 z4 z9 z10 z11 z12 z13 z14 z15 z16 z17 z18 z19 z20 z21 z22 z23 z24 z25 z26 z27 z28 z29 z30 z31 z32 z33 z34 z35 z36 z37 z38 bk bh i cp l A HG HK HH hi HA Hc Hx hl H b x hS' (cB.low hb)
set_option maxRecDepth 100000 in
set_option maxHeartbeats 1000000 in
theorem ra_3 (Q : Exit → Act → World → Prop) (hQ : ∀ c a w n v, Q (.panic c) (a.put (some n) v) w → Q (.panic c) a w) (u : World) (z0 z2 z3 z4 z9 z10 z11 z12 z13 z14 z15 z16 z17 z18 z19 z20 z21 z22 z23 z24 z25 z26 z27 z28 z29 z30 z31 z32 z33 z34 z35 z36 z37 z38 : Value) (bk bh i cp : Nat) (l : List Nat) (A : Option Addr) (HG : Glob u) (HK : Blk u bk (arr 80 kc) 36) (HH : Blk u bh (arr 8 hc) 28) (hi : i < 80) (HA : Rds u A l) (Hc : l.length ≤ cp) (Hx : ∀ x ∈ l, x < 256) (hl : l.length ≤ 300) (H : ∀ (b : Nat) (w : World), Below u.heap.size u w → Blk w b #[.slice A l.length cp] 22 → Q .normal { tmps := List.toArray (z0 :: (.slice A l.length cp) :: z2 :: z3 :: ((.bool true)) :: ((.bool true)) :: (.pointer (some ⟨bk, 0, none⟩)) :: (.int .i64 (i : Nat)) :: (.pointer (some ⟨bh, 0, none⟩)) :: z9 :: z10 :: z11 :: z12 :: z13 :: z14 :: z15 :: z16 :: z17 :: z18 :: ((.bool true)) :: ((.bool true)) :: (.int .i64 (i : Nat)) :: (.pointer (some ⟨bk, i, none⟩)) :: (.int .u64 (kc i : Nat)) :: (.int .i64 (i : Nat)) :: (.int .u64 (pr i : Nat)) :: (.int .u64 (kc i : Nat)) :: ((.bool true)) :: ((.bool true)) :: ((.bool true)) :: (.slice A l.length cp) :: (.agg (arr 8 hc)) :: (.agg (arr 80 kc)) :: (.agg (vals .u8 64 (dg l))) :: (.slice A l.length cp) :: (.slice (some ⟨b, 0, none⟩) 1 1) :: (.agg (vals .u8 64 (dg l))) :: ((.bool true)) :: ((.bool true)) :: []), defers := [] } w) (w : World) (hS : Below u.heap.size u w) :
    wpAnyH Tryd.prog .any raOps Q (fun w' => Below u.heap.size u w') 5 (List.toArray (true :: true :: true :: true :: true :: true :: true :: true :: true :: true :: true :: true :: true :: true :: true :: true :: false :: false :: false :: false :: false :: [])) { tmps := List.toArray (z0 :: (.slice A l.length cp) :: z2 :: z3 :: z4 :: ((.bool true)) :: (.pointer (some ⟨bk, 0, none⟩)) :: (.int .i64 (i : Nat)) :: (.pointer (some ⟨bh, 0, none⟩)) :: z9 :: z10 :: z11 :: z12 :: z13 :: z14 :: z15 :: z16 :: z17 :: z18 :: ((.bool true)) :: ((.bool true)) :: (.int .i64 (i : Nat)) :: (.pointer (some ⟨bk, i, none⟩)) :: (.int .u64 (kc i : Nat)) :: (.int .i64 (i : Nat)) :: (.int .u64 (pr i : Nat)) :: (.int .u64 (kc i : Nat)) :: ((.bool true)) :: ((.bool true)) :: ((.bool true)) :: (.slice A l.length cp) :: (.agg (arr 8 hc)) :: (.agg (arr 80 kc)) :: (.agg (vals .u8 64 (dg l))) :: (.slice A l.length cp) :: z35 :: z36 :: z37 :: z38 :: []), defers := [] } w := by
  refine wpAnyH_ready (rs := [16]) (by kernel_rfl) (by simp) ?_
  refine AllReadyH.cons (o := raOp16) rfl (fun K hK => ?_) AllReadyH.nil
  have hb := (Below.refl w.heap.size w).alloc (Nat.le_refl _) (.cells (#[.slice A l.length cp]) 22)
  have hS' := keepCall hb rfl hS
  obtain ⟨b, eb⟩ : ∃ b, b = w.heap.size := ⟨_, rfl⟩
  have cB : Blk (w.alloc (.cells (#[.slice A l.length cp]) 22)) b #[.slice A l.length cp] 22 := by rw [eb]; exact Blk.new w _ _
  unfold raOp16
  go_simp
  rw [← eb]
  refine hK.out _ _ hS' (fun _ => ?_)
  clear hK K
  simp only [List.setIfInBounds_toArray, List.set_cons_zero, List.set_cons_succ]
  exact ra_1 Q hQ u z0 z2 z3 z4 z9 z10 z11 z12 z13 z14 z15 z16 z17 z18 z19 z20 z21 z22 z23 z24 z25 z26 z27 z28 z29 z30 z31 z32 z33 z34 z35 z36 z37 z38 bk bh i cp l A HG HK HH hi HA Hc Hx hl H b (w.alloc (.cells (#[.slice A l.length cp]) 22)) hS' cB
set_option maxRecDepth 100000 in
set_option maxHeartbeats 1000000 in
theorem ra_4 (Q : Exit → Act → World → Prop) (hQ : ∀ c a w n v, Q (.panic c) (a.put (some n) v) w → Q (.panic c) a w) (u : World) (z0 z2 z3 z4 z9 z10 z11 z12 z13 z14 z15 z16 z17 z18 z19 z20 z21 z22 z23 z24 z25 z26 z27 z28 z29 z30 z31 z32 z33 z34 z35 z36 z37 z38 : Value) (bk bh i cp : Nat) (l : List Nat) (A : Option Addr) (HG : Glob u) (HK : Blk u bk (arr 80 kc) 36) (HH : Blk u bh (arr 8 hc) 28) (hi : i < 80) (HA : Rds u A l) (Hc : l.length ≤ cp) (Hx : ∀ x ∈ l, x < 256) (hl : l.length ≤ 300) (H : ∀ (b : Nat) (w : World), Below u.heap.size u w → Blk w b #[.slice A l.length cp] 22 → Q .normal { tmps := List.toArray (z0 :: (.slice A l.length cp) :: z2 :: z3 :: ((.bool true)) :: ((.bool true)) :: (.pointer (some ⟨bk, 0, none⟩)) :: (.int .i64 (i : Nat)) :: (.pointer (some ⟨bh, 0, none⟩)) :: z9 :: z10 :: z11 :: z12 :: z13 :: z14 :: z15 :: z16 :: z17 :: z18 :: ((.bool true)) :: ((.bool true)) :: (.int .i64 (i : Nat)) :: (.pointer (some ⟨bk, i, none⟩)) :: (.int .u64 (kc i : Nat)) :: (.int .i64 (i : Nat)) :: (.int .u64 (pr i : Nat)) :: (.int .u64 (kc i : Nat)) :: ((.bool true)) :: ((.bool true)) :: ((.bool true)) :: (.slice A l.length cp) :: (.agg (arr 8 hc)) :: (.agg (arr 80 kc)) :: (.agg (vals .u8 64 (dg l))) :: (.slice A l.length cp) :: (.slice (some ⟨b, 0, none⟩) 1 1) :: (.agg (vals .u8 64 (dg l))) :: ((.bool true)) :: ((.bool true)) :: []), defers := [] } w) (w : World) (hS : Below u.heap.size u w) :
    wpAnyH Tryd.prog .any raOps Q (fun w' => Below u.heap.size u w') 6 (List.toArray (true :: true :: true :: true :: true :: true :: true :: true :: true :: true :: true :: true :: true :: true :: false :: true :: false :: false :: false :: false :: false :: [])) { tmps := List.toArray (z0 :: (.slice A l.length cp) :: z2 :: z3 :: z4 :: ((.bool true)) :: (.pointer (some ⟨bk, 0, none⟩)) :: (.int .i64 (i : Nat)) :: (.pointer (some ⟨bh, 0, none⟩)) :: z9 :: z10 :: z11 :: z12 :: z13 :: z14 :: z15 :: z16 :: z17 :: z18 :: ((.bool true)) :: ((.bool true)) :: (.int .i64 (i : Nat)) :: (.pointer (some ⟨bk, i, none⟩)) :: (.int .u64 (kc i : Nat)) :: (.int .i64 (i : Nat)) :: (.int .u64 (pr i : Nat)) :: (.int .u64 (kc i : Nat)) :: ((.bool true)) :: ((.bool true)) :: ((.bool true)) :: (.slice A l.length cp) :: (.agg (arr 8 hc)) :: (.agg (arr 80 kc)) :: z33 :: (.slice A l.length cp) :: z35 :: z36 :: z37 :: z38 :: []), defers := [] } w := by
  refine wpAnyH_ready (rs := [14, 16]) (by kernel_rfl) (by simp) ?_
  refine AllReadyH.cons (o := raOp14) rfl (fun K hK => ?_) ?_
  · skip
    unfold raOp14
    go_simp
    refine (sumBy_at A l cp _ w (by rfl) (HA.low hS) Hc Hx (by omega)).mono ?_
    rintro e x ⟨rfl, hb⟩
    dsimp only
    have hS' := keepCall hb rfl hS
    refine hK.out _ _ hS' (fun _ => ?_)
    clear hK K
    simp only [List.setIfInBounds_toArray, List.set_cons_zero, List.set_cons_succ]
    exact ra_3 Q hQ u z0 z2 z3 z4 z9 z10 z11 z12 z13 z14 z15 z16 z17 z18 z19 z20 z21 z22 z23 z24 z25 z26 z27 z28 z29 z30 z31 z32 z33 z34 z35 z36 z37 z38 bk bh i cp l A HG HK HH hi HA Hc Hx hl H  x hS' 
  · refine AllReadyH.cons (o := raOp16) rfl (fun K hK => ?_) AllReadyH.nil
    have hb := (Below.refl w.heap.size w).alloc (Nat.le_refl _) (.cells (#[.slice A l.length cp]) 22)
    have hS' := keepCall hb rfl hS
    obtain ⟨b, eb⟩ : ∃ b, b = w.heap.size := ⟨_, rfl⟩
    have cB : Blk (w.alloc (.cells (#[.slice A l.length cp]) 22)) b #[.slice A l.length cp] 22 := by rw [eb]; exact Blk.new w _ _
    unfold raOp16
    go_simp
    rw [← eb]
    refine hK.out _ _ hS' (fun _ => ?_)
    clear hK K
    simp only [List.setIfInBounds_toArray, List.set_cons_zero, List.set_cons_succ]
    exact ra_2 Q hQ u z0 z2 z3 z4 z9 z10 z11 z12 z13 z14 z15 z16 z17 z18 z19 z20 z21 z22 z23 z24 z25 z26 z27 z28 z29 z30 z31 z32 z33 z34 z35 z36 z37 z38 bk bh i cp l A HG HK HH hi HA Hc Hx hl H b (w.alloc (.cells (#[.slice A l.length cp]) 22)) hS' cB
set_option maxRecDepth 100000 in
set_option maxHeartbeats 1000000 in
theorem ra_5 (Q : Exit → Act → World → Prop) (hQ : ∀ c a w n v, Q (.panic c) (a.put (some n) v) w → Q (.panic c) a w) (u : World) (z0 z2 z3 z4 z9 z10 z11 z12 z13 z14 z15 z16 z17 z18 z19 z20 z21 z22 z23 z24 z25 z26 z27 z28 z29 z30 z31 z32 z33 z34 z35 z36 z37 z38 : Value) (bk bh i cp : Nat) (l : List Nat) (A : Option Addr) (HG : Glob u) (HK : Blk u bk (arr 80 kc) 36) (HH : Blk u bh (arr 8 hc) 28) (hi : i < 80) (HA : Rds u A l) (Hc : l.length ≤ cp) (Hx : ∀ x ∈ l, x < 256) (hl : l.length ≤ 300) (H : ∀ (b : Nat) (w : World), Below u.heap.size u w → Blk w b #[.slice A l.length cp] 22 → Q .normal { tmps := List.toArray (z0 :: (.slice A l.length cp) :: z2 :: z3 :: ((.bool true)) :: ((.bool true)) :: (.pointer (some ⟨bk, 0, none⟩)) :: (.int .i64 (i : Nat)) :: (.pointer (some ⟨bh, 0, none⟩)) :: z9 :: z10 :: z11 :: z12 :: z13 :: z14 :: z15 :: z16 :: z17 :: z18 :: ((.bool true)) :: ((.bool true)) :: (.int .i64 (i : Nat)) :: (.pointer (some ⟨bk, i, none⟩)) :: (.int .u64 (kc i : Nat)) :: (.int .i64 (i : Nat)) :: (.int .u64 (pr i : Nat)) :: (.int .u64 (kc i : Nat)) :: ((.bool true)) :: ((.bool true)) :: ((.bool true)) :: (.slice A l.length cp) :: (.agg (arr 8 hc)) :: (.agg (arr 80 kc)) :: (.agg (vals .u8 64 (dg l))) :: (.slice A l.length cp) :: (.slice (some ⟨b, 0, none⟩) 1 1) :: (.agg (vals .u8 64 (dg l))) :: ((.bool true)) :: ((.bool true)) :: []), defers := [] } w) (w : World) (hS : Below u.heap.size u w) :
    wpAnyH Tryd.prog .any raOps Q (fun w' => Below u.heap.size u w') 14 (List.toArray (true :: true :: true :: true :: true :: true :: true :: false :: false :: false :: false :: false :: false :: false :: false :: false :: false :: false :: false :: false :: false :: [])) { tmps := List.toArray (z0 :: (.slice A l.length cp) :: z2 :: z3 :: z4 :: ((.bool true)) :: (.pointer (some ⟨bk, 0, none⟩)) :: (.int .i64 (i : Nat)) :: (.pointer (some ⟨bh, 0, none⟩)) :: z9 :: z10 :: z11 :: z12 :: z13 :: z14 :: z15 :: z16 :: z17 :: z18 :: ((.bool true)) :: ((.bool true)) :: (.int .i64 (i : Nat)) :: (.pointer (some ⟨bk, i, none⟩)) :: (.int .u64 (kc i : Nat)) :: (.int .i64 (i : Nat)) :: (.int .u64 (pr i : Nat)) :: z26 :: z27 :: z28 :: z29 :: z30 :: z31 :: z32 :: z33 :: z34 :: z35 :: z36 :: z37 :: z38 :: []), defers := [] } w := by
  refine wpAnyH_ready (rs := [7]) (by kernel_rfl) (by simp) ?_
  refine AllReadyH.cons (o := raOp7) rfl (fun K hK => ?_) AllReadyH.nil
  unfold raOp7
  go_simp
  refine (rootK_at i _ w (by rfl) hi).mono ?_
  rintro e x ⟨rfl, hb⟩
  dsimp only
  have hS' := keepCall hb rfl hS
  refine hK.out _ _ hS' (fun _ => ?_)
  clear hK K
  simp only [List.setIfInBounds_toArray, List.set_cons_zero, List.set_cons_succ]
  refine wpAnyH_take (i := 8) (oi := raOp8) (v := (.bool true)) rfl (by kernel_rfl) (by kernel_rfl) (by kernel_rfl) (fun _ _ _ => hQ _ _ _ _ _) (Or.inl ⟨by rfl, fun w hSw => by unfold raOp8; go_simp⟩) hS' ?_
  try simp only [raOp8, Act.put, List.setIfInBounds_toArray, List.set_cons_zero, List.set_cons_succ]
  refine wpAnyH_take (i := 9) (oi := raOp9) (v := (.bool true)) rfl (by kernel_rfl) (by kernel_rfl) (by kernel_rfl) (fun _ _ _ => hQ _ _ _ _ _) (Or.inl ⟨by rfl, fun w hSw => by unfold raOp9; go_simp⟩) hS' ?_
  try simp only [raOp9, Act.put, List.setIfInBounds_toArray, List.set_cons_zero, List.set_cons_succ]
  refine wpAnyH_take (i := 10) (oi := raOp10) (v := (.bool true)) rfl (by kernel_rfl) (by kernel_rfl) (by kernel_rfl) (fun _ _ _ => hQ _ _ _ _ _) (Or.inl ⟨by rfl, fun w hSw => by unfold raOp10; go_simp⟩) hS' ?_
  try simp only [raOp10, Act.put, List.setIfInBounds_toArray, List.set_cons_zero, List.set_cons_succ]
  refine wpAnyH_take (i := 11) (oi := raOp11) (v := .slice A l.length cp) rfl (by kernel_rfl) (by kernel_rfl) (by kernel_rfl) (fun _ _ _ => hQ _ _ _ _ _) (Or.inl ⟨by rfl, fun w hSw => by unfold raOp11; go_simp⟩) hS' ?_
  try simp only [raOp11, Act.put, List.setIfInBounds_toArray, List.set_cons_zero, List.set_cons_succ]
  refine wpAnyH_take (i := 12) (oi := raOp12) (v := .agg (arr 8 hc)) rfl (by kernel_rfl) (by kernel_rfl) (by kernel_rfl) (fun _ _ _ => hQ _ _ _ _ _) (yields_S (fun w' h => HH.call h) (by rfl) 28 _ rfl rfl _ Tryd.underlying28 rfl (by rw [arr_size]; exact cells28)) hS' ?_
  try simp only [raOp12, Act.put, List.setIfInBounds_toArray, List.set_cons_zero, List.set_cons_succ]
  refine wpAnyH_take (i := 13) (oi := raOp13) (v := .agg (arr 80 kc)) rfl (by kernel_rfl) (by kernel_rfl) (by kernel_rfl) (fun _ _ _ => hQ _ _ _ _ _) (yields_S (fun w' h => HK.call h) (by rfl) 36 _ rfl rfl _ Tryd.underlying36 rfl (by rw [arr_size]; exact cells36)) hS' ?_
  try simp only [raOp13, Act.put, List.setIfInBounds_toArray, List.set_cons_zero, List.set_cons_succ]
  refine wpAnyH_take (i := 15) (oi := raOp15) (v := .slice A l.length cp) rfl (by kernel_rfl) (by kernel_rfl) (by kernel_rfl) (fun _ _ _ => hQ _ _ _ _ _) (Or.inl ⟨by rfl, fun w hSw => by unfold raOp15; go_simp⟩) hS' ?_
  try simp only [raOp15, Act.put, List.setIfInBounds_toArray, List.set_cons_zero, List.set_cons_succ]
  exact ra_4 Q hQ u z0 z2 z3 z4 z9 z10 z11 z12 z13 z14 z15 z16 z17 z18 z19 z20 z21 z22 z23 z24 z25 z26 z27 z28 z29 z30 z31 z32 z33 z34 z35 z36 z37 z38 bk bh i cp l A HG HK HH hi HA Hc Hx hl H  x hS' 
set_option maxRecDepth 100000 in
set_option maxHeartbeats 1000000 in
theorem ra_6 (Q : Exit → Act → World → Prop) (hQ : ∀ c a w n v, Q (.panic c) (a.put (some n) v) w → Q (.panic c) a w) (u : World) (z0 z2 z3 z4 z9 z10 z11 z12 z13 z14 z15 z16 z17 z18 z19 z20 z21 z22 z23 z24 z25 z26 z27 z28 z29 z30 z31 z32 z33 z34 z35 z36 z37 z38 : Value) (bk bh i cp : Nat) (l : List Nat) (A : Option Addr) (HG : Glob u) (HK : Blk u bk (arr 80 kc) 36) (HH : Blk u bh (arr 8 hc) 28) (hi : i < 80) (HA : Rds u A l) (Hc : l.length ≤ cp) (Hx : ∀ x ∈ l, x < 256) (hl : l.length ≤ 300) (H : ∀ (b : Nat) (w : World), Below u.heap.size u w → Blk w b #[.slice A l.length cp] 22 → Q .normal { tmps := List.toArray (z0 :: (.slice A l.length cp) :: z2 :: z3 :: ((.bool true)) :: ((.bool true)) :: (.pointer (some ⟨bk, 0, none⟩)) :: (.int .i64 (i : Nat)) :: (.pointer (some ⟨bh, 0, none⟩)) :: z9 :: z10 :: z11 :: z12 :: z13 :: z14 :: z15 :: z16 :: z17 :: z18 :: ((.bool true)) :: ((.bool true)) :: (.int .i64 (i : Nat)) :: (.pointer (some ⟨bk, i, none⟩)) :: (.int .u64 (kc i : Nat)) :: (.int .i64 (i : Nat)) :: (.int .u64 (pr i : Nat)) :: (.int .u64 (kc i : Nat)) :: ((.bool true)) :: ((.bool true)) :: ((.bool true)) :: (.slice A l.length cp) :: (.agg (arr 8 hc)) :: (.agg (arr 80 kc)) :: (.agg (vals .u8 64 (dg l))) :: (.slice A l.length cp) :: (.slice (some ⟨b, 0, none⟩) 1 1) :: (.agg (vals .u8 64 (dg l))) :: ((.bool true)) :: ((.bool true)) :: []), defers := [] } w) (w : World) (hS : Below u.heap.size u w) :
    wpAnyH Tryd.prog .any raOps Q (fun w' => Below u.heap.size u w') 15 (List.toArray (true :: true :: true :: true :: true :: true :: false :: false :: false :: false :: false :: false :: false :: false :: false :: false :: false :: false :: false :: false :: false :: [])) { tmps := List.toArray (z0 :: (.slice A l.length cp) :: z2 :: z3 :: z4 :: ((.bool true)) :: (.pointer (some ⟨bk, 0, none⟩)) :: (.int .i64 (i : Nat)) :: (.pointer (some ⟨bh, 0, none⟩)) :: z9 :: z10 :: z11 :: z12 :: z13 :: z14 :: z15 :: z16 :: z17 :: z18 :: ((.bool true)) :: ((.bool true)) :: (.int .i64 (i : Nat)) :: (.pointer (some ⟨bk, i, none⟩)) :: (.int .u64 (kc i : Nat)) :: (.int .i64 (i : Nat)) :: z25 :: z26 :: z27 :: z28 :: z29 :: z30 :: z31 :: z32 :: z33 :: z34 :: z35 :: z36 :: z37 :: z38 :: []), defers := [] } w := by
  refine wpAnyH_ready (rs := [6]) (by kernel_rfl) (by simp) ?_
  refine AllReadyH.cons (o := raOp6) rfl (fun K hK => ?_) AllReadyH.nil
  unfold raOp6
  go_simp
  refine (primeB_at i _ w (by rfl) hi).mono ?_
  rintro e x ⟨rfl, hb⟩
  dsimp only
  have hS' := keepCall hb rfl hS
  refine hK.out _ _ hS' (fun _ => ?_)
  clear hK K
  simp only [List.setIfInBounds_toArray, List.set_cons_zero, List.set_cons_succ]
  exact ra_5 Q hQ u z0 z2 z3 z4 z9 z10 z11 z12 z13 z14 z15 z16 z17 z18 z19 z20 z21 z22 z23 z24 z25 z26 z27 z28 z29 z30 z31 z32 z33 z34 z35 z36 z37 z38 bk bh i cp l A HG HK HH hi HA Hc Hx hl H  x hS' 
set_option maxRecDepth 100000 in
set_option maxHeartbeats 1000000 in
theorem ra_region (Q : Exit → Act → World → Prop) (hQ : ∀ c a w n v, Q (.panic c) (a.put (some n) v) w → Q (.panic c) a w) (u : World) (z0 z2 z3 z4 z9 z10 z11 z12 z13 z14 z15 z16 z17 z18 z19 z20 z21 z22 z23 z24 z25 z26 z27 z28 z29 z30 z31 z32 z33 z34 z35 z36 z37 z38 : Value) (bk bh i cp : Nat) (l : List Nat) (A : Option Addr) (HG : Glob u) (HK : Blk u bk (arr 80 kc) 36) (HH : Blk u bh (arr 8 hc) 28) (hi : i < 80) (HA : Rds u A l) (Hc : l.length ≤ cp) (Hx : ∀ x ∈ l, x < 256) (hl : l.length ≤ 300) (H : ∀ (b : Nat) (w : World), Below u.heap.size u w → Blk w b #[.slice A l.length cp] 22 → Q .normal { tmps := List.toArray (z0 :: (.slice A l.length cp) :: z2 :: z3 :: ((.bool true)) :: ((.bool true)) :: (.pointer (some ⟨bk, 0, none⟩)) :: (.int .i64 (i : Nat)) :: (.pointer (some ⟨bh, 0, none⟩)) :: z9 :: z10 :: z11 :: z12 :: z13 :: z14 :: z15 :: z16 :: z17 :: z18 :: ((.bool true)) :: ((.bool true)) :: (.int .i64 (i : Nat)) :: (.pointer (some ⟨bk, i, none⟩)) :: (.int .u64 (kc i : Nat)) :: (.int .i64 (i : Nat)) :: (.int .u64 (pr i : Nat)) :: (.int .u64 (kc i : Nat)) :: ((.bool true)) :: ((.bool true)) :: ((.bool true)) :: (.slice A l.length cp) :: (.agg (arr 8 hc)) :: (.agg (arr 80 kc)) :: (.agg (vals .u8 64 (dg l))) :: (.slice A l.length cp) :: (.slice (some ⟨b, 0, none⟩) 1 1) :: (.agg (vals .u8 64 (dg l))) :: ((.bool true)) :: ((.bool true)) :: []), defers := [] } w) :
    (Code.region 7 raOps true).wp Tryd.prog Q { tmps := List.toArray (z0 :: (.slice A l.length cp) :: z2 :: z3 :: z4 :: ((.bool true)) :: (.pointer (some ⟨bk, 0, none⟩)) :: (.int .i64 (i : Nat)) :: (.pointer (some ⟨bh, 0, none⟩)) :: z9 :: z10 :: z11 :: z12 :: z13 :: z14 :: z15 :: z16 :: z17 :: z18 :: z19 :: z20 :: z21 :: z22 :: z23 :: z24 :: z25 :: z26 :: z27 :: z28 :: z29 :: z30 :: z31 :: z32 :: z33 :: z34 :: z35 :: z36 :: z37 :: z38 :: []), defers := [] } u := by
  refine wp_region_held_drew (S := (fun w' => Below u.heap.size u w')) (by kernel_rfl) (Below.refl _ _).drew (fun hS => ?_)
  refine wpAnyH_take (i := 0) (oi := raOp0) (v := (.bool true)) rfl (by kernel_rfl) (by kernel_rfl) (by kernel_rfl) (fun _ _ _ => hQ _ _ _ _ _) (Or.inl ⟨by rfl, fun w hSw => by unfold raOp0; go_simp⟩) hS ?_
  try simp only [raOp0, Act.put, List.setIfInBounds_toArray, List.set_cons_zero, List.set_cons_succ]
  refine wpAnyH_take (i := 1) (oi := raOp1) (v := (.bool true)) rfl (by kernel_rfl) (by kernel_rfl) (by kernel_rfl) (fun _ _ _ => hQ _ _ _ _ _) (Or.inl ⟨by rfl, fun w hSw => by unfold raOp1; go_simp⟩) hS ?_
  try simp only [raOp1, Act.put, List.setIfInBounds_toArray, List.set_cons_zero, List.set_cons_succ]
  refine wpAnyH_take (i := 2) (oi := raOp2) (v := .int .i64 (i : Nat)) rfl (by kernel_rfl) (by kernel_rfl) (by kernel_rfl) (fun _ _ _ => hQ _ _ _ _ _) (Or.inl ⟨by rfl, fun w hSw => by unfold raOp2; go_simp⟩) hS ?_
  try simp only [raOp2, Act.put, List.setIfInBounds_toArray, List.set_cons_zero, List.set_cons_succ]
  refine wpAnyH_take (i := 3) (oi := raOp3) (v := .pointer (some ⟨bk, i, none⟩)) rfl (by kernel_rfl) (by kernel_rfl) (by kernel_rfl) (fun _ _ _ => hQ _ _ _ _ _) (Or.inl ⟨by rfl, fun w hSw => by have h1 : (0 : Int) ≤ (i : Int) := (by omega); have h2 : (i : Int) < 80 := (by omega); unfold raOp3; go_simp⟩) hS ?_
  try simp only [raOp3, Act.put, List.setIfInBounds_toArray, List.set_cons_zero, List.set_cons_succ]
  refine wpAnyH_take (i := 4) (oi := raOp4) (v := .int .u64 (kc i : Nat)) rfl (by kernel_rfl) (by kernel_rfl) (by kernel_rfl) (fun _ _ _ => hQ _ _ _ _ _) (Or.inl ⟨by rfl, fun w hSw => by have h0 := (HK.call hSw).cell i; rw [arr_get _ _ _ hi] at h0; unfold raOp4; go_simp⟩) hS ?_
  try simp only [raOp4, Act.put, List.setIfInBounds_toArray, List.set_cons_zero, List.set_cons_succ]
  refine wpAnyH_take (i := 5) (oi := raOp5) (v := .int .i64 (i : Nat)) rfl (by kernel_rfl) (by kernel_rfl) (by kernel_rfl) (fun _ _ _ => hQ _ _ _ _ _) (Or.inl ⟨by rfl, fun w hSw => by unfold raOp5; go_simp⟩) hS ?_
  try simp only [raOp5, Act.put, List.setIfInBounds_toArray, List.set_cons_zero, List.set_cons_succ]
  exact ra_6 Q hQ u z0 z2 z3 z4 z9 z10 z11 z12 z13 z14 z15 z16 z17 z18 z19 z20 z21 z22 z23 z24 z25 z26 z27 z28 z29 z30 z31 z32 z33 z34 z35 z36 z37 z38 bk bh i cp l A HG HK HH hi HA Hc Hx hl H u.drew hS
theorem rem80 (t : Nat) : (t : Int).tmod 80 = ((t % 80 : Nat) : Int) := by rw [Int.tmod_eq_emod_of_nonneg (by omega)]; omega
set_option maxRecDepth 100000 in
set_option maxHeartbeats 4000000 in
theorem roots_walk (m : Nat) (A : Option Addr) (l : List Nat) (cap : Nat) (w : World) (hG : Glob w) (hm : m < 256) (hA : Rds w A l) (hcap : l.length ≤ cap) (hl : ∀ x ∈ l, x < 256) :
    Calls Tryd.prog 4 #[.int .u8 m, .slice A l.length cap] w fun e w' => e = .returned (.bool true) ∧ Below w.heap.size w w' := by
  have HG := hide hG
  have HA := hide hA
  have Hcap := hide hcap
  have Hl := hide hl
  have Hm := hide hm
  clear hG hA hcap hl hm
  go_enter Tryd.func4, Tryd.ntmps4
  go_upto_region 2 with (go_at_call 8; refine (awake_at _ _ rfl HG.out).mono ?_; rintro e w1 ⟨rfl, hb⟩; have L1 := hide hb; clear hb; dsimp only)
  by_cases hlen : 300 < l.length
  · have hi : (300 : Int) < (l.length : Int) := by omega
    go_wp2
    go_ret
    exact ⟨rfl, L1.out⟩
  have hi : ¬ (300 : Int) < (l.length : Int) := by omega
  have Hlen := hide hlen
  clear hlen
  have hz1 := zero36
  have hz2 := zero28
  obtain ⟨i, hiq⟩ : ∃ i, i = m % 80 := ⟨_, rfl⟩
  have hr1 : (m : Int).tmod 80 = (i : Int) := by rw [hiq]; exact rem80 m
  have hr2 : (m : Int) % 80 = (i : Int) := by omega
  have hw1 : wrap64 (m : Int) = (m : Int) := by have := Hm.out; unfold wrap64; omega
  have Hi : Hid (i < 80) := hide (by omega)
  clear hiq
  go_upto_region 7 with (first
    | (go_at_call 14; refine (rK_any _).mono ?_; rintro e k11 ⟨rfl, hb⟩; have L_11 := hide (keepLow2 L1.out hb); clear hb L1; dsimp only)
    | (refine wpList_store_abs rfl 36 _ _ rfl k11.heap.size (arr 80 kc) rfl rfl 36 _ (Blk.new k11 _ _) (by rw [arr_size]; exact cells36) (by simp only [arr_size]) (arr_one _ _) ?_; intro k12 Bn Sn; have L_12 := hide (Sn.low _ _ (L_11.out.alloc L_11.out.size _) L_11.out.size); have K_12 := hide Bn; clear Bn Sn L_11)
    | (go_at_call 15; refine (heads_any _).mono ?_; rintro e k13 ⟨rfl, hb⟩; have K_13 := hide (K_12.out.call hb); have L_13 := hide (keepLow2 L_12.out hb); clear hb K_12 L_12; dsimp only)
    | (refine wpList_store_abs rfl 28 _ _ rfl k13.heap.size (arr 8 hc) rfl rfl 28 _ (Blk.new k13 _ _) (by rw [arr_size]; exact cells28) (by first | (rw [arr_size]; rfl) | simp only [arr_size]) (arr_one _ _) ?_; intro k14 Bn Sn; have K_14 := hide (Sn.other _ _ _ (Nat.ne_of_gt K_13.out.lt) (K_13.out.alloc _)); have L_14 := hide (Sn.low _ _ (L_13.out.alloc L_13.out.size _) L_13.out.size); have H_14 := hide Bn; clear Bn Sn K_13 L_13))
  clear hz1 hz2 hr1 hr2 hw1
  refine ra_region _ (fun _ _ _ _ _ h => h) k14 _ _ _ _ _ _ _ _ _ _ _ _ _ _ _ _ _ _ _ _ _ _ _ _ _ _ _ _ _ _ _ _ _ _ k11.heap.size k13.heap.size i cap l A (HG.out.low L_14.out) K_14.out H_14.out Hi.out (HA.out.low L_14.out) Hcap.out Hl.out (by have := Hlen.out; omega) ?_
  intro b w7 hb7 _
  have L7 := hide (keepLow2 L_14.out hb7)
  clear hb7
  go_wp2
  go_ret
  exact ⟨rfl, L7.out⟩
end Go.Proofs.YtplckpmicoohnaaDoor

/- Walks: Sum of mac. -/
import Derived.Test.YtjnjedannpnjiaaDoorMy
import Derived.Test.YtjnjedannpnjiaaDoorKc
namespace Go.Proofs.YtjnjedannpnjiaaDoor
open Go.RowKit

theorem keepB {B : Nat} {u y y' : World} (hb : Below y.heap.size y y') (h0 : B ≤ u.heap.size) (h : Below B u y) : Below B u y' := h.trans (hb.mono (Nat.le_trans h0 h.size))
theorem changed_f (g f : Nat → Nat) (y b : Nat) (args : Array Value) (w : World) (hg : g = fun i => f i ^^^ y) (h : args = #[.int .u8 y, .pointer (some ⟨b, 0, none⟩)]) (hB : Blk w b (vals .u8 128 f) 37) (hf : ∀ i, f i < 256) (hy : y < 256) :
    Calls Tryd.prog 18 args w fun e w' => e = .returned (.agg (vals .u8 128 g)) ∧ Below w.heap.size w w' := by
  rw [hg]; exact changed_at f y b args w h hB hf hy
theorem behind_f (o g : Nat → Nat) (P : Option Addr) (ps : List Pt) (pcap : Nat) (args : Array Value) (w : World) (ho : o = dg ((List.range 128).map g ++ cat ps)) (h : args = #[.agg (vals .u8 128 g), .slice P ps.length pcap]) (hG : Glob w) (hf : ∀ i, g i < 256) (hP : Prt w P ps) (hO : PtOk w ps) (hs : (cat ps).length < 2 ^ 59) (hp : ps.length < 2 ^ 62) :
    Calls Tryd.prog 19 args w fun e w' => e = .returned (.agg (vals .u8 64 o)) ∧ Below w.heap.size w w' := by
  rw [ho]; exact behind_at g P ps pcap args w h hG hf hP hO hs hp
theorem mc_def (k l : List Nat) : mc k l = dg ((List.range 128).map (kb k 92) ++ (List.range 64).map (dg ((List.range 128).map (kb k 54) ++ l))) := rfl
theorem kb_def (k : List Nat) (y : Nat) : kb k y = fun i => kz k i ^^^ y := rfl
theorem keyBlock_f (z : Nat → Nat) (A : Option Addr) (k : List Nat) (cap : Nat) (args : Array Value) (w : World) (hz : z = kz k) (h : args = #[.slice A k.length cap]) (hG : Glob w) (hA : Rds w A k) (hcap : k.length ≤ cap) (hk : ∀ x ∈ k, x < 256) (hn : k.length < 2 ^ 30) :
    Calls Tryd.prog 17 args w fun e w' => e = .returned (.agg (vals .u8 128 z)) ∧ Below w.heap.size w w' := by
  rw [hz]; exact keyBlock_at A k cap args w h hG hA hcap hk hn
def smOp0 : Oper := { dst := some 15, op := Op.move (Operand.tmp 6), type := 39, pos := "mac.go:23", after := #[], guard := none }
def smOp1 : Oper := { dst := some 16, op := Op.call { callee := Callee.value (Operand.tmp 15), args := #[Operand.const (Value.int IntKind.u8 92)], argTypes := #[5] }, type := 37, pos := "mac.go:23", after := #[{ on := 0, ground := Ground.data }], guard := none }
def smOp2 : Oper := { dst := some 17, op := Op.slice 27 (Operand.tmp 7) none none none, type := 23, pos := "mac.go:23", after := #[], guard := none }
def smOp3 : Oper := { dst := some 18, op := Op.buildSlice 36 1 #[(0, Operand.tmp 17)], type := 36, pos := "mac.go:23", after := #[{ on := 2, ground := Ground.data }], guard := none }
def smOp4 : Oper := { dst := some 19, op := Op.call { callee := Callee.value (Operand.func 19), args := #[Operand.tmp 16, Operand.tmp 18], argTypes := #[37, 36] }, type := 27, pos := "mac.go:23", after := #[{ on := 1, ground := Ground.data }, { on := 3, ground := Ground.data }, { on := 1, ground := Ground.chain }], guard := none }
def smOp5 : Oper := { dst := none, op := Op.store 27 (Operand.tmp 4) (Operand.tmp 19), type := 0, pos := "mac.go:23", after := #[{ on := 4, ground := Ground.data }, { on := 4, ground := Ground.chain }, { on := 0, ground := Ground.phase }, { on := 1, ground := Ground.phase }, { on := 2, ground := Ground.phase }, { on := 3, ground := Ground.phase }, { on := 4, ground := Ground.phase }], guard := none }
def smOps : Array Oper := #[smOp0, smOp1, smOp2, smOp3, smOp4, smOp5]
set_option maxRecDepth 100000 in
set_option maxHeartbeats 1000000 in
theorem sm_0 (Q : Exit → Act → World → Prop) (hQ : ∀ c a w n v, Q (.panic c) (a.put (some n) v) w → Q (.panic c) a w) (u : World) (z0 z1 z2 z3 z5 z8 z9 z10 z11 z12 z13 z14 z15 z16 z17 z18 z19 : Value) (z g o : Nat → Nat) (t : List Nat) (b4 bk bt B0 : Nat) (hB0 : B0 ≤ u.heap.size) (h4 : B0 ≤ b4) (hz : ∀ i, z i < 256) (hg : Hid (g = fun i => z i ^^^ 92)) (hgl : ∀ i, g i < 256) (htl : t.length = 64) (ht : ∀ x ∈ t, x < 256) (ho : Hid (o = dg ((List.range 128).map g ++ t))) (H : ∀ (b1 : Nat) (w : World), Below B0 u w → Blk w b4 (vals .u8 64 o) 27 → Q .normal { tmps := List.toArray (z0 :: z1 :: z2 :: z3 :: (.pointer (some ⟨b4, 0, none⟩)) :: z5 :: (.func (.func 18) #[] #[.pointer (some ⟨bk, 0, none⟩)]) :: (.pointer (some ⟨bt, 0, none⟩)) :: z8 :: z9 :: z10 :: z11 :: z12 :: z13 :: z14 :: (.func (.func 18) #[] #[.pointer (some ⟨bk, 0, none⟩)]) :: (.agg (vals .u8 128 g)) :: (.slice (some ⟨bt, 0, none⟩) 64 64) :: (.slice (some ⟨b1, 0, none⟩) 1 1) :: (.agg (vals .u8 64 o)) :: []), defers := [] } w) (b1 : Nat) (w : World) (hS : Below B0 u w) (HR : Blk w b4 (vals .u8 64 o) 27) :
    wpAnyH Tryd.prog .any smOps Q (fun w' => Below B0 u w') 0 (List.toArray (true :: true :: true :: true :: true :: true :: [])) { tmps := List.toArray (z0 :: z1 :: z2 :: z3 :: (.pointer (some ⟨b4, 0, none⟩)) :: z5 :: (.func (.func 18) #[] #[.pointer (some ⟨bk, 0, none⟩)]) :: (.pointer (some ⟨bt, 0, none⟩)) :: z8 :: z9 :: z10 :: z11 :: z12 :: z13 :: z14 :: (.func (.func 18) #[] #[.pointer (some ⟨bk, 0, none⟩)]) :: (.agg (vals .u8 128 g)) :: (.slice (some ⟨bt, 0, none⟩) 64 64) :: (.slice (some ⟨b1, 0, none⟩) 1 1) :: (.agg (vals .u8 64 o)) :: []), defers := [] } w := by
  have _ := hQ
  have _ := u
  have _ := z0
  have _ := z1
  have _ := z2
  have _ := z3
  have _ := z5
  have _ := z8
  have _ := z9
  have _ := z10
  have _ := z11
  have _ := z12
  have _ := z13
  have _ := z14
  have _ := z15
  have _ := z16
  have _ := z17
  have _ := z18
  have _ := z19
  have _ := z
  have _ := g
  have _ := o
  have _ := t
  have _ := b4
  have _ := bk
  have _ := bt
  have _ := B0
  have _ := hB0
  have _ := h4
  have _ := hz
  have _ := hg
  have _ := hgl
  have _ := htl
  have _ := ht
  have _ := ho
  exact wpAnyH_done (by kernel_rfl) (H b1 w hS HR) _
set_option maxRecDepth 100000 in
set_option maxHeartbeats 1000000 in
theorem sm_1 (Q : Exit → Act → World → Prop) (hQ : ∀ c a w n v, Q (.panic c) (a.put (some n) v) w → Q (.panic c) a w) (u : World) (z0 z1 z2 z3 z5 z8 z9 z10 z11 z12 z13 z14 z15 z16 z17 z18 z19 : Value) (z g o : Nat → Nat) (t : List Nat) (b4 bk bt B0 : Nat) (hB0 : B0 ≤ u.heap.size) (h4 : B0 ≤ b4) (hz : ∀ i, z i < 256) (hg : Hid (g = fun i => z i ^^^ 92)) (hgl : ∀ i, g i < 256) (htl : t.length = 64) (ht : ∀ x ∈ t, x < 256) (ho : Hid (o = dg ((List.range 128).map g ++ t))) (H : ∀ (b1 : Nat) (w : World), Below B0 u w → Blk w b4 (vals .u8 64 o) 27 → Q .normal { tmps := List.toArray (z0 :: z1 :: z2 :: z3 :: (.pointer (some ⟨b4, 0, none⟩)) :: z5 :: (.func (.func 18) #[] #[.pointer (some ⟨bk, 0, none⟩)]) :: (.pointer (some ⟨bt, 0, none⟩)) :: z8 :: z9 :: z10 :: z11 :: z12 :: z13 :: z14 :: (.func (.func 18) #[] #[.pointer (some ⟨bk, 0, none⟩)]) :: (.agg (vals .u8 128 g)) :: (.slice (some ⟨bt, 0, none⟩) 64 64) :: (.slice (some ⟨b1, 0, none⟩) 1 1) :: (.agg (vals .u8 64 o)) :: []), defers := [] } w) (b1 : Nat) (w : World) (hS : Below B0 u w) (HG : Glob w) (HK : Blk w bk (vals .u8 128 z) 37) (HT : Rds w (some ⟨bt, 0, none⟩) t) (HR : Blk w b4 (vals .u8 64 (fun _ => 0)) 27) (c1 : Blk w b1 #[.slice (some ⟨bt, 0, none⟩) 64 64] 23) :
    wpAnyH Tryd.prog .any smOps Q (fun w' => Below B0 u w') 1 (List.toArray (true :: true :: true :: true :: true :: false :: [])) { tmps := List.toArray (z0 :: z1 :: z2 :: z3 :: (.pointer (some ⟨b4, 0, none⟩)) :: z5 :: (.func (.func 18) #[] #[.pointer (some ⟨bk, 0, none⟩)]) :: (.pointer (some ⟨bt, 0, none⟩)) :: z8 :: z9 :: z10 :: z11 :: z12 :: z13 :: z14 :: (.func (.func 18) #[] #[.pointer (some ⟨bk, 0, none⟩)]) :: (.agg (vals .u8 128 g)) :: (.slice (some ⟨bt, 0, none⟩) 64 64) :: (.slice (some ⟨b1, 0, none⟩) 1 1) :: (.agg (vals .u8 64 o)) :: []), defers := [] } w := by
  have _ := HG
  have _ := HK
  have _ := HT
  have _ := c1
  refine wpAnyH_ready (rs := [5]) (by kernel_rfl) (by simp) ?_
  refine AllReadyH.cons (o := smOp5) rfl (fun K hK => ?_) AllReadyH.nil
  unfold smOp5
  rw [if_pos (by rfl)]
  refine wp_store_row 27 _ _ rfl (b4) (vals .u8 64 o) rfl rfl 27 _ HR (by rw [vals_size]; exact cells24) (by rw [vals_size, vals_size]) (vals_one _ _ _) ?_
  have hS' := Below.row (b := b4) hS h4 (vals .u8 64 o)
  refine hK.out _ _ hS' (fun _ => ?_)
  clear hK K
  simp only [Act.put, List.setIfInBounds_toArray, List.set_cons_zero, List.set_cons_succ]
  exact sm_0 Q hQ u z0 z1 z2 z3 z5 z8 z9 z10 z11 z12 z13 z14 z15 z16 z17 z18 z19 z g o t b4 bk bt B0 hB0 h4 hz hg hgl htl ht ho H b1 (w.setRow (b4) (vals .u8 64 o)) hS' (HR.row _)
set_option maxRecDepth 100000 in
set_option maxHeartbeats 1000000 in
theorem sm_2 (Q : Exit → Act → World → Prop) (hQ : ∀ c a w n v, Q (.panic c) (a.put (some n) v) w → Q (.panic c) a w) (u : World) (z0 z1 z2 z3 z5 z8 z9 z10 z11 z12 z13 z14 z15 z16 z17 z18 z19 : Value) (z g o : Nat → Nat) (t : List Nat) (b4 bk bt B0 : Nat) (hB0 : B0 ≤ u.heap.size) (h4 : B0 ≤ b4) (hz : ∀ i, z i < 256) (hg : Hid (g = fun i => z i ^^^ 92)) (hgl : ∀ i, g i < 256) (htl : t.length = 64) (ht : ∀ x ∈ t, x < 256) (ho : Hid (o = dg ((List.range 128).map g ++ t))) (H : ∀ (b1 : Nat) (w : World), Below B0 u w → Blk w b4 (vals .u8 64 o) 27 → Q .normal { tmps := List.toArray (z0 :: z1 :: z2 :: z3 :: (.pointer (some ⟨b4, 0, none⟩)) :: z5 :: (.func (.func 18) #[] #[.pointer (some ⟨bk, 0, none⟩)]) :: (.pointer (some ⟨bt, 0, none⟩)) :: z8 :: z9 :: z10 :: z11 :: z12 :: z13 :: z14 :: (.func (.func 18) #[] #[.pointer (some ⟨bk, 0, none⟩)]) :: (.agg (vals .u8 128 g)) :: (.slice (some ⟨bt, 0, none⟩) 64 64) :: (.slice (some ⟨b1, 0, none⟩) 1 1) :: (.agg (vals .u8 64 o)) :: []), defers := [] } w) (b1 : Nat) (w : World) (hS : Below B0 u w) (HG : Glob w) (HK : Blk w bk (vals .u8 128 z) 37) (HT : Rds w (some ⟨bt, 0, none⟩) t) (HR : Blk w b4 (vals .u8 64 (fun _ => 0)) 27) (c1 : Blk w b1 #[.slice (some ⟨bt, 0, none⟩) 64 64] 23) :
    wpAnyH Tryd.prog .any smOps Q (fun w' => Below B0 u w') 2 (List.toArray (true :: true :: true :: true :: false :: false :: [])) { tmps := List.toArray (z0 :: z1 :: z2 :: z3 :: (.pointer (some ⟨b4, 0, none⟩)) :: z5 :: (.func (.func 18) #[] #[.pointer (some ⟨bk, 0, none⟩)]) :: (.pointer (some ⟨bt, 0, none⟩)) :: z8 :: z9 :: z10 :: z11 :: z12 :: z13 :: z14 :: (.func (.func 18) #[] #[.pointer (some ⟨bk, 0, none⟩)]) :: (.agg (vals .u8 128 g)) :: (.slice (some ⟨bt, 0, none⟩) 64 64) :: (.slice (some ⟨b1, 0, none⟩) 1 1) :: z19 :: []), defers := [] } w := by
  refine wpAnyH_ready (rs := [4]) (by kernel_rfl) (by simp) ?_
  refine AllReadyH.cons (o := smOp4) rfl (fun K hK => ?_) AllReadyH.nil
  unfold smOp4
  go_simp
  refine (behind_one o g (some ⟨bt, 0, none⟩) t 64 b1 23 _ w ho.out (by rfl) (by rw [htl]; exact c1) HG hgl HT (by omega) ht (by omega)).mono ?_
  rintro e x ⟨rfl, hb⟩
  dsimp only
  have hS' := keepB hb hB0 hS
  refine hK.out _ _ hS' (fun _ => ?_)
  clear hK K
  simp only [List.setIfInBounds_toArray, List.set_cons_zero, List.set_cons_succ]
  exact sm_1 Q hQ u z0 z1 z2 z3 z5 z8 z9 z10 z11 z12 z13 z14 z15 z16 z17 z18 z19 z g o t b4 bk bt B0 hB0 h4 hz hg hgl htl ht ho H b1 x hS' (HG.low hb) (HK.low hb) (HT.low hb) (HR.low hb) (c1.low hb)
set_option maxRecDepth 100000 in
set_option maxHeartbeats 1000000 in
theorem sm_3 (Q : Exit → Act → World → Prop) (hQ : ∀ c a w n v, Q (.panic c) (a.put (some n) v) w → Q (.panic c) a w) (u : World) (z0 z1 z2 z3 z5 z8 z9 z10 z11 z12 z13 z14 z15 z16 z17 z18 z19 : Value) (z g o : Nat → Nat) (t : List Nat) (b4 bk bt B0 : Nat) (hB0 : B0 ≤ u.heap.size) (h4 : B0 ≤ b4) (hz : ∀ i, z i < 256) (hg : Hid (g = fun i => z i ^^^ 92)) (hgl : ∀ i, g i < 256) (htl : t.length = 64) (ht : ∀ x ∈ t, x < 256) (ho : Hid (o = dg ((List.range 128).map g ++ t))) (H : ∀ (b1 : Nat) (w : World), Below B0 u w → Blk w b4 (vals .u8 64 o) 27 → Q .normal { tmps := List.toArray (z0 :: z1 :: z2 :: z3 :: (.pointer (some ⟨b4, 0, none⟩)) :: z5 :: (.func (.func 18) #[] #[.pointer (some ⟨bk, 0, none⟩)]) :: (.pointer (some ⟨bt, 0, none⟩)) :: z8 :: z9 :: z10 :: z11 :: z12 :: z13 :: z14 :: (.func (.func 18) #[] #[.pointer (some ⟨bk, 0, none⟩)]) :: (.agg (vals .u8 128 g)) :: (.slice (some ⟨bt, 0, none⟩) 64 64) :: (.slice (some ⟨b1, 0, none⟩) 1 1) :: (.agg (vals .u8 64 o)) :: []), defers := [] } w) (b1 : Nat) (w : World) (hS : Below B0 u w) (HG : Glob w) (HK : Blk w bk (vals .u8 128 z) 37) (HT : Rds w (some ⟨bt, 0, none⟩) t) (HR : Blk w b4 (vals .u8 64 (fun _ => 0)) 27) (c1 : Blk w b1 #[.slice (some ⟨bt, 0, none⟩) 64 64] 23) :
    wpAnyH Tryd.prog .any smOps Q (fun w' => Below B0 u w') 3 (List.toArray (true :: false :: true :: true :: false :: false :: [])) { tmps := List.toArray (z0 :: z1 :: z2 :: z3 :: (.pointer (some ⟨b4, 0, none⟩)) :: z5 :: (.func (.func 18) #[] #[.pointer (some ⟨bk, 0, none⟩)]) :: (.pointer (some ⟨bt, 0, none⟩)) :: z8 :: z9 :: z10 :: z11 :: z12 :: z13 :: z14 :: (.func (.func 18) #[] #[.pointer (some ⟨bk, 0, none⟩)]) :: z16 :: (.slice (some ⟨bt, 0, none⟩) 64 64) :: (.slice (some ⟨b1, 0, none⟩) 1 1) :: z19 :: []), defers := [] } w := by
  refine wpAnyH_ready (rs := [1]) (by kernel_rfl) (by simp) ?_
  refine AllReadyH.cons (o := smOp1) rfl (fun K hK => ?_) AllReadyH.nil
  unfold smOp1
  go_simp
  refine (changed_f g z 92 bk _ w hg.out (by rfl) HK hz (by omega)).mono ?_
  rintro e x ⟨rfl, hb⟩
  dsimp only
  have hS' := keepB hb hB0 hS
  refine hK.out _ _ hS' (fun _ => ?_)
  clear hK K
  simp only [List.setIfInBounds_toArray, List.set_cons_zero, List.set_cons_succ]
  exact sm_2 Q hQ u z0 z1 z2 z3 z5 z8 z9 z10 z11 z12 z13 z14 z15 z16 z17 z18 z19 z g o t b4 bk bt B0 hB0 h4 hz hg hgl htl ht ho H b1 x hS' (HG.low hb) (HK.low hb) (HT.low hb) (HR.low hb) (c1.low hb)
set_option maxRecDepth 100000 in
set_option maxHeartbeats 1000000 in
theorem sm_4 (Q : Exit → Act → World → Prop) (hQ : ∀ c a w n v, Q (.panic c) (a.put (some n) v) w → Q (.panic c) a w) (u : World) (z0 z1 z2 z3 z5 z8 z9 z10 z11 z12 z13 z14 z15 z16 z17 z18 z19 : Value) (z g o : Nat → Nat) (t : List Nat) (b4 bk bt B0 : Nat) (hB0 : B0 ≤ u.heap.size) (h4 : B0 ≤ b4) (hz : ∀ i, z i < 256) (hg : Hid (g = fun i => z i ^^^ 92)) (hgl : ∀ i, g i < 256) (htl : t.length = 64) (ht : ∀ x ∈ t, x < 256) (ho : Hid (o = dg ((List.range 128).map g ++ t))) (H : ∀ (b1 : Nat) (w : World), Below B0 u w → Blk w b4 (vals .u8 64 o) 27 → Q .normal { tmps := List.toArray (z0 :: z1 :: z2 :: z3 :: (.pointer (some ⟨b4, 0, none⟩)) :: z5 :: (.func (.func 18) #[] #[.pointer (some ⟨bk, 0, none⟩)]) :: (.pointer (some ⟨bt, 0, none⟩)) :: z8 :: z9 :: z10 :: z11 :: z12 :: z13 :: z14 :: (.func (.func 18) #[] #[.pointer (some ⟨bk, 0, none⟩)]) :: (.agg (vals .u8 128 g)) :: (.slice (some ⟨bt, 0, none⟩) 64 64) :: (.slice (some ⟨b1, 0, none⟩) 1 1) :: (.agg (vals .u8 64 o)) :: []), defers := [] } w) (w : World) (hS : Below B0 u w) (HG : Glob w) (HK : Blk w bk (vals .u8 128 z) 37) (HT : Rds w (some ⟨bt, 0, none⟩) t) (HR : Blk w b4 (vals .u8 64 (fun _ => 0)) 27) :
    wpAnyH Tryd.prog .any smOps Q (fun w' => Below B0 u w') 3 (List.toArray (true :: true :: true :: false :: false :: false :: [])) { tmps := List.toArray (z0 :: z1 :: z2 :: z3 :: (.pointer (some ⟨b4, 0, none⟩)) :: z5 :: (.func (.func 18) #[] #[.pointer (some ⟨bk, 0, none⟩)]) :: (.pointer (some ⟨bt, 0, none⟩)) :: z8 :: z9 :: z10 :: z11 :: z12 :: z13 :: z14 :: (.func (.func 18) #[] #[.pointer (some ⟨bk, 0, none⟩)]) :: (.agg (vals .u8 128 g)) :: (.slice (some ⟨bt, 0, none⟩) 64 64) :: z18 :: z19 :: []), defers := [] } w := by
  refine wpAnyH_ready (rs := [3]) (by kernel_rfl) (by simp) ?_
  refine AllReadyH.cons (o := smOp3) rfl (fun K hK => ?_) AllReadyH.nil
  have hb := (Below.refl w.heap.size w).alloc (Nat.le_refl _) (.cells (#[.slice (some ⟨bt, 0, none⟩) 64 64]) 23)
  have hS' := keepB hb hB0 hS
  obtain ⟨b1, eb1⟩ : ∃ b, b = w.heap.size := ⟨_, rfl⟩
  have c1 : Blk (w.alloc (.cells (#[.slice (some ⟨bt, 0, none⟩) 64 64]) 23)) b1 #[.slice (some ⟨bt, 0, none⟩) 64 64] 23 := by rw [eb1]; exact Blk.new w _ _
  unfold smOp3
  go_simp
  rw [← eb1]
  refine hK.out _ _ hS' (fun _ => ?_)
  clear hK K
  simp only [List.setIfInBounds_toArray, List.set_cons_zero, List.set_cons_succ]
  exact sm_2 Q hQ u z0 z1 z2 z3 z5 z8 z9 z10 z11 z12 z13 z14 z15 z16 z17 z18 z19 z g o t b4 bk bt B0 hB0 h4 hz hg hgl htl ht ho H b1 (w.alloc (.cells (#[.slice (some ⟨bt, 0, none⟩) 64 64]) 23)) hS' (HG.low hb) (HK.low hb) (HT.low hb) (HR.low hb) c1
set_option maxRecDepth 100000 in
set_option maxHeartbeats 1000000 in
theorem sm_5 (Q : Exit → Act → World → Prop) (hQ : ∀ c a w n v, Q (.panic c) (a.put (some n) v) w → Q (.panic c) a w) (u : World) (z0 z1 z2 z3 z5 z8 z9 z10 z11 z12 z13 z14 z15 z16 z17 z18 z19 : Value) (z g o : Nat → Nat) (t : List Nat) (b4 bk bt B0 : Nat) (hB0 : B0 ≤ u.heap.size) (h4 : B0 ≤ b4) (hz : ∀ i, z i < 256) (hg : Hid (g = fun i => z i ^^^ 92)) (hgl : ∀ i, g i < 256) (htl : t.length = 64) (ht : ∀ x ∈ t, x < 256) (ho : Hid (o = dg ((List.range 128).map g ++ t))) (H : ∀ (b1 : Nat) (w : World), Below B0 u w → Blk w b4 (vals .u8 64 o) 27 → Q .normal { tmps := List.toArray (z0 :: z1 :: z2 :: z3 :: (.pointer (some ⟨b4, 0, none⟩)) :: z5 :: (.func (.func 18) #[] #[.pointer (some ⟨bk, 0, none⟩)]) :: (.pointer (some ⟨bt, 0, none⟩)) :: z8 :: z9 :: z10 :: z11 :: z12 :: z13 :: z14 :: (.func (.func 18) #[] #[.pointer (some ⟨bk, 0, none⟩)]) :: (.agg (vals .u8 128 g)) :: (.slice (some ⟨bt, 0, none⟩) 64 64) :: (.slice (some ⟨b1, 0, none⟩) 1 1) :: (.agg (vals .u8 64 o)) :: []), defers := [] } w) (w : World) (hS : Below B0 u w) (HG : Glob w) (HK : Blk w bk (vals .u8 128 z) 37) (HT : Rds w (some ⟨bt, 0, none⟩) t) (HR : Blk w b4 (vals .u8 64 (fun _ => 0)) 27) :
    wpAnyH Tryd.prog .any smOps Q (fun w' => Below B0 u w') 4 (List.toArray (true :: false :: true :: false :: false :: false :: [])) { tmps := List.toArray (z0 :: z1 :: z2 :: z3 :: (.pointer (some ⟨b4, 0, none⟩)) :: z5 :: (.func (.func 18) #[] #[.pointer (some ⟨bk, 0, none⟩)]) :: (.pointer (some ⟨bt, 0, none⟩)) :: z8 :: z9 :: z10 :: z11 :: z12 :: z13 :: z14 :: (.func (.func 18) #[] #[.pointer (some ⟨bk, 0, none⟩)]) :: z16 :: (.slice (some ⟨bt, 0, none⟩) 64 64) :: z18 :: z19 :: []), defers := [] } w := by
  refine wpAnyH_ready (rs := [1, 3]) (by kernel_rfl) (by simp) ?_
  refine AllReadyH.cons (o := smOp1) rfl (fun K hK => ?_) ?_
  · skip
    unfold smOp1
    go_simp
    refine (changed_f g z 92 bk _ w hg.out (by rfl) HK hz (by omega)).mono ?_
    rintro e x ⟨rfl, hb⟩
    dsimp only
    have hS' := keepB hb hB0 hS
    refine hK.out _ _ hS' (fun _ => ?_)
    clear hK K
    simp only [List.setIfInBounds_toArray, List.set_cons_zero, List.set_cons_succ]
    exact sm_4 Q hQ u z0 z1 z2 z3 z5 z8 z9 z10 z11 z12 z13 z14 z15 z16 z17 z18 z19 z g o t b4 bk bt B0 hB0 h4 hz hg hgl htl ht ho H  x hS' (HG.low hb) (HK.low hb) (HT.low hb) (HR.low hb)
  · refine AllReadyH.cons (o := smOp3) rfl (fun K hK => ?_) AllReadyH.nil
    have hb := (Below.refl w.heap.size w).alloc (Nat.le_refl _) (.cells (#[.slice (some ⟨bt, 0, none⟩) 64 64]) 23)
    have hS' := keepB hb hB0 hS
    obtain ⟨b1, eb1⟩ : ∃ b, b = w.heap.size := ⟨_, rfl⟩
    have c1 : Blk (w.alloc (.cells (#[.slice (some ⟨bt, 0, none⟩) 64 64]) 23)) b1 #[.slice (some ⟨bt, 0, none⟩) 64 64] 23 := by rw [eb1]; exact Blk.new w _ _
    unfold smOp3
    go_simp
    rw [← eb1]
    refine hK.out _ _ hS' (fun _ => ?_)
    clear hK K
    simp only [List.setIfInBounds_toArray, List.set_cons_zero, List.set_cons_succ]
    exact sm_3 Q hQ u z0 z1 z2 z3 z5 z8 z9 z10 z11 z12 z13 z14 z15 z16 z17 z18 z19 z g o t b4 bk bt B0 hB0 h4 hz hg hgl htl ht ho H b1 (w.alloc (.cells (#[.slice (some ⟨bt, 0, none⟩) 64 64]) 23)) hS' (HG.low hb) (HK.low hb) (HT.low hb) (HR.low hb) c1
set_option maxRecDepth 100000 in
set_option maxHeartbeats 1000000 in
theorem sm_region (Q : Exit → Act → World → Prop) (hQ : ∀ c a w n v, Q (.panic c) (a.put (some n) v) w → Q (.panic c) a w) (u : World) (z0 z1 z2 z3 z5 z8 z9 z10 z11 z12 z13 z14 z15 z16 z17 z18 z19 : Value) (z g o : Nat → Nat) (t : List Nat) (b4 bk bt B0 : Nat) (hB0 : B0 ≤ u.heap.size) (h4 : B0 ≤ b4) (hz : ∀ i, z i < 256) (hg : Hid (g = fun i => z i ^^^ 92)) (hgl : ∀ i, g i < 256) (htl : t.length = 64) (ht : ∀ x ∈ t, x < 256) (ho : Hid (o = dg ((List.range 128).map g ++ t))) (H : ∀ (b1 : Nat) (w : World), Below B0 u w → Blk w b4 (vals .u8 64 o) 27 → Q .normal { tmps := List.toArray (z0 :: z1 :: z2 :: z3 :: (.pointer (some ⟨b4, 0, none⟩)) :: z5 :: (.func (.func 18) #[] #[.pointer (some ⟨bk, 0, none⟩)]) :: (.pointer (some ⟨bt, 0, none⟩)) :: z8 :: z9 :: z10 :: z11 :: z12 :: z13 :: z14 :: (.func (.func 18) #[] #[.pointer (some ⟨bk, 0, none⟩)]) :: (.agg (vals .u8 128 g)) :: (.slice (some ⟨bt, 0, none⟩) 64 64) :: (.slice (some ⟨b1, 0, none⟩) 1 1) :: (.agg (vals .u8 64 o)) :: []), defers := [] } w) (HG : Glob u) (HK : Blk u bk (vals .u8 128 z) 37) (HT : Rds u (some ⟨bt, 0, none⟩) t) (HR : Blk u b4 (vals .u8 64 (fun _ => 0)) 27) :
    (Code.region 4 smOps true).wp Tryd.prog Q { tmps := List.toArray (z0 :: z1 :: z2 :: z3 :: (.pointer (some ⟨b4, 0, none⟩)) :: z5 :: (.func (.func 18) #[] #[.pointer (some ⟨bk, 0, none⟩)]) :: (.pointer (some ⟨bt, 0, none⟩)) :: z8 :: z9 :: z10 :: z11 :: z12 :: z13 :: z14 :: z15 :: z16 :: z17 :: z18 :: z19 :: []), defers := [] } u := by
  refine wp_region_held_drew (S := (fun w' => Below B0 u w')) (by kernel_rfl) (Below.refl _ _).drew (fun hS => ?_)
  refine wpAnyH_take (i := 0) (oi := smOp0) (v := .func (.func 18) #[] #[.pointer (some ⟨bk, 0, none⟩)]) rfl (by kernel_rfl) (by kernel_rfl) (by kernel_rfl) (fun _ _ _ => hQ _ _ _ _ _) (Or.inl ⟨by rfl, fun w hSw => by unfold smOp0; go_simp⟩) hS ?_
  try simp only [smOp0, Act.put, List.setIfInBounds_toArray, List.set_cons_zero, List.set_cons_succ]
  refine wpAnyH_take (i := 2) (oi := smOp2) (v := .slice (some ⟨bt, 0, none⟩) 64 64) rfl (by kernel_rfl) (by kernel_rfl) (by kernel_rfl) (fun _ _ _ => hQ _ _ _ _ _) (Or.inl ⟨by rfl, fun w hSw => by unfold smOp2; go_simp⟩) hS ?_
  try simp only [smOp2, Act.put, List.setIfInBounds_toArray, List.set_cons_zero, List.set_cons_succ]
  exact sm_5 Q hQ u z0 z1 z2 z3 z5 z8 z9 z10 z11 z12 z13 z14 z15 z16 z17 z18 z19 z g o t b4 bk bt B0 hB0 h4 hz hg hgl htl ht ho H u.drew hS (HG.low (Below.refl _ _).drew) (HK.low (Below.refl _ _).drew) (HT.low (Below.refl _ _).drew) (HR.low (Below.refl _ _).drew)
set_option maxRecDepth 100000 in
set_option maxHeartbeats 2000000 in
theorem msum_any (A : Option Addr) (k : List Nat) (cap : Nat) (P : Option Addr) (ps : List Pt) (pcap : Nat) (w : World) (hG : Glob w) (hA : Rds w A k) (hcap : k.length ≤ cap) (hk : ∀ x ∈ k, x < 256) (hP : Prt w P ps) (hO : PtOk w ps) (hn : k.length < 2 ^ 29) (hs : (cat ps).length < 2 ^ 29) (hp : ps.length < 2 ^ 29) :
    Calls Tryd.prog 14 #[.slice A k.length cap, .slice P ps.length pcap] w fun e w' => e = .returned (.agg (vals .u8 64 (mc k (cat ps)))) ∧ Below w.heap.size w w' := by
  have HG := hide hG
  have HA := hide hA
  have Hcap := hide hcap
  have Hk := hide hk
  have HP := hide hP
  have HO := hide hO
  have Hn := hide hn
  have Hs := hide hs
  have Hp := hide hp
  obtain ⟨z, hz⟩ : ∃ z, z = kz k := ⟨_, rfl⟩
  obtain ⟨g1, hg1⟩ : ∃ g, g = fun i => z i ^^^ 54 := ⟨_, rfl⟩
  obtain ⟨g2, hg2⟩ : ∃ g, g = fun i => z i ^^^ 92 := ⟨_, rfl⟩
  obtain ⟨d, hd⟩ : ∃ d, d = dg ((List.range 128).map g1 ++ cat ps) := ⟨_, rfl⟩
  obtain ⟨t, ht⟩ : ∃ t, t = (List.range 64).map d := ⟨_, rfl⟩
  obtain ⟨o, ho⟩ : ∃ o, o = dg ((List.range 128).map g2 ++ t) := ⟨_, rfl⟩
  have Hm : Hid (mc k (cat ps) = o) := hide (by rw [mc_def, kb_def, kb_def, ho, ht, hd, hg1, hg2, hz])
  have Hzl : Hid (∀ i, z i < 256) := hide (fun i => by rw [hz]; exact getD_lt (ky k) (ky_lt k hk) i)
  have Hgl1 : Hid (∀ i, g1 i < 256) := hide (fun i => by rw [hg1]; exact Nat.xor_lt_two_pow (n := 8) (Hzl.out i) (by decide))
  have Hgl2 : Hid (∀ i, g2 i < 256) := hide (fun i => by rw [hg2]; exact Nat.xor_lt_two_pow (n := 8) (Hzl.out i) (by decide))
  have Htl : Hid (t.length = 64) := hide (by rw [ht]; simp)
  have Htt : Hid (∀ x ∈ t, x < 256) := hide (fun x hx => by rw [ht] at hx; obtain ⟨i, _, rfl⟩ := List.mem_map.1 hx; rw [hd]; exact dg_lt _ i)
  rw [Hm.out]
  have Hz := hide hz
  have Hg1 := hide hg1
  have Hg2 := hide hg2
  have Hd := hide hd
  have Ht := hide ht
  have Ho := hide ho
  clear hG hA hcap hk hP hO hn hs hp hz hg1 hg2 hd ht ho
  have hz1 := zero24
  have hz2 := zero35
  go_enter Tryd.func14, Tryd.ntmps14
  go_upto_region 1 with (fail)
  have B0 := hide (Blk.new w (vals .u8 64 (fun _ => 0)) 27)
  have L0 := hide ((Below.refl _ w).alloc (Nat.le_refl _) (.cells (vals .u8 64 (fun _ => 0)) 27))
  generalize w.alloc (.cells (vals .u8 64 (fun _ => 0)) 27) = w1 at *
  go_upto_region 2 with (first
    | (go_at_call 17; refine (keyBlock_f z A k cap _ _ Hz.out rfl (HG.out.low L0.out) (HA.out.low L0.out) Hcap.out Hk.out (by have := Hn.out; omega)).mono ?_; rintro e k11 ⟨rfl, hb⟩; have R_11 := hide (B0.out.call hb); have L_11 := hide (keepLow2 L0.out hb); clear hb B0 L0; dsimp only)
    | (refine wpList_store_abs rfl 37 _ _ rfl k11.heap.size (vals .u8 128 z) rfl rfl 37 _ (Blk.new k11 _ _) (by rw [vals_size]; exact cells29) (by simp only [vals_size]) (vals_one _ _ _) ?_; intro k12 Bn Sn; have R_12 := hide (Sn.other _ _ _ (Nat.ne_of_gt R_11.out.lt) (R_11.out.alloc _)); have L_12 := hide (Sn.low _ _ (L_11.out.alloc L_11.out.size _) L_11.out.size); have K_12 := hide Bn; clear Bn Sn R_11 L_11))
  have hmf : ∀ (fn : Fn) (first cap : Array Value) (w : World), (Instr.makeFunc fn first cap).run Tryd.prog w = .ok (.func fn first cap) w := fun _ _ _ _ => rfl
  generalize k11.heap.size = bk at *
  go_upto_region 4 with (first
    | (go_at_call 18; refine (changed_f g1 z 54 bk _ _ Hg1.out rfl K_12.out Hzl.out (by omega)).mono ?_; rintro e k13 ⟨rfl, hb⟩; have R_13 := hide (R_12.out.call hb); have K_13 := hide (K_12.out.call hb); have L_13 := hide (keepLow2 L_12.out hb); clear hb R_12 K_12 L_12; dsimp only)
    | (go_at_call 19; refine (behind_f d g1 P ps pcap _ _ Hd.out rfl (HG.out.low L_13.out) Hgl1.out (HP.out.low L_13.out) (HO.out.low L_13.out) (by have := Hs.out; omega) (by have := Hp.out; omega)).mono ?_; rintro e k14 ⟨rfl, hb⟩; have R_14 := hide (R_13.out.call hb); have K_14 := hide (K_13.out.call hb); have L_14 := hide (keepLow2 L_13.out hb); clear hb R_13 K_13 L_13; dsimp only)
    | (refine wpList_store_abs rfl 27 _ _ rfl k14.heap.size (vals .u8 64 d) rfl rfl 27 _ (Blk.new k14 _ _) (by rw [vals_size]; exact cells24) (by simp only [vals_size]) (vals_one _ _ _) ?_; intro k15 Bn Sn; have R_15 := hide (Sn.other _ _ _ (Nat.ne_of_gt R_14.out.lt) (R_14.out.alloc _)); have K_15 := hide (Sn.other _ _ _ (Nat.ne_of_gt K_14.out.lt) (K_14.out.alloc _)); have L_15 := hide (Sn.low _ _ (L_14.out.alloc L_14.out.size _) L_14.out.size); have T_15 := hide Bn; clear Bn Sn R_14 K_14 L_14))
  clear hz1 hz2 hmf
  have HT := hide (rds_vals T_15.out)
  rw [← Ht.out] at HT
  refine sm_region _ (fun _ _ _ _ _ h => h) k15 _ _ _ _ _ _ _ _ _ _ _ _ _ _ _ _ _ z g2 o t w.heap.size bk _ w.heap.size L_15.out.size (Nat.le_refl _) Hzl.out Hg2 Hgl2.out Htl.out Htt.out Ho ?_ (HG.out.low L_15.out) K_15.out HT.out R_15.out
  intro b1 w7 hb7 HR7
  have B7 := hide HR7
  have L7 := hide (L_15.out.trans hb7)
  clear hb7 HR7
  go_wp2
  refine bodyPost_ret (v := .agg (vals .u8 64 o)) (results_cell_row Tryd.results14 _ _ w.heap.size 27 _ (0, 0) _ rfl B7.out Tryd.underlying27 rfl (by rw [vals_size]; exact cells24)) rfl ⟨rfl, L7.out⟩
theorem sum_ok : SumOk := fun A k cap P ps pcap args w h hG hA hcap hk hP hO hn hs hp => by
  subst h; exact msum_any A k cap P ps pcap w hG hA hcap hk hP hO hn hs hp
end Go.Proofs.YtjnjedannpnjiaaDoor

/- Walks: the regions of Mul. -/
import Derived.Test.YtidhffaphbiapaaPf
namespace Go.Proofs.Ytidhffaphbiapaa
open F Go.RowKit

theorem one_lt : 1 < pP := by unfold pP; omega
theorem one_c (w : World) : Ret 13 #[.agg (vals .u8 32 (oneB 1))] w (.agg (arr 4 (limb 1))) := by
  have h := load_c (oneB 1) w (oneB_lt 1 (by omega))
  rw [nb_one 1 31, Nat.mod_eq_of_lt one_lt] at h
  exact h
def mu0Op0 : Oper := { dst := some 2, op := Op.box 22 (Operand.tmp 0), type := 0, pos := "ladder.go:10", after := #[], guard := none }
def mu0Op1 : Oper := { dst := some 3, op := Op.box 22 (Operand.tmp 1), type := 0, pos := "ladder.go:10", after := #[], guard := none }
def mu0Op2 : Oper := { dst := some 4, op := Op.alloc 22, type := 0, pos := "ladder.go:10", after := #[], guard := none }
def mu0Ops : Array Oper := #[mu0Op0, mu0Op1, mu0Op2]
set_option maxRecDepth 100000 in
set_option maxHeartbeats 2000000 in
theorem mu0_region (Q : Exit → Act → World → Prop) (hQ : ∀ c a w n v, Q (.panic c) (a.put (some n) v) w → Q (.panic c) a w) (u : World) (z2 z3 z4 : Value) (zz : List Value) (f g : Nat → Nat) (H : ∀ (n2 : Nat) (n3 : Nat) (n4 : Nat) (w : World), Kp [] u w → u.heap.size ≤ n2 → Blk w n2 (vals .u8 32 f) 22 → u.heap.size ≤ n3 → Blk w n3 (vals .u8 32 g) 22 → u.heap.size ≤ n4 → Blk w n4 (vals .u8 32 (fun _ => 0)) 22 → n2 ≠ n3 → n2 ≠ n4 → n3 ≠ n4 → Q .normal { tmps := List.toArray ((.agg (vals .u8 32 f)) :: (.agg (vals .u8 32 g)) :: (.pointer (some ⟨n2, 0, none⟩)) :: (.pointer (some ⟨n3, 0, none⟩)) :: (.pointer (some ⟨n4, 0, none⟩)) :: zz), defers := [] } w) :
    (Code.region 0 mu0Ops false).wp Try.prog Q { tmps := List.toArray ((.agg (vals .u8 32 f)) :: (.agg (vals .u8 32 g)) :: z2 :: z3 :: z4 :: zz), defers := [] } u := by
  have _ := hQ
  have _ := u
  have _ := z2
  have _ := z3
  have _ := z4
  have _ := zz
  have _ := f
  have _ := g
  refine wp_region_list (show wpList _ mu0Ops _ [mu0Op0, mu0Op1, mu0Op2] _ _ from ?_)
  have hS : Kp [] u u := Kp.refl _ u
  refine wpList_plain rfl (fun K hK => ?_)
  refine wp_new _ 22 (box_by _ _ _ _ f rfl (by kernel_rfl)) ?_
  intro n2 w0 eb Bn2 hbw
  have hS' := hS.call hbw
  refine hK _ _ ?_
  clear hK K
  have qgn2 : u.heap.size ≤ n2 := (by rw [eb]; exact hS.size)
  have qBn2 : Blk w0 n2 (vals .u8 32 f) 22 := Bn2
  clear hS
  have gn2 := qgn2
  have Bn2 := qBn2
  have hS := hS'
  clear hS' qgn2 qBn2
  refine wpList_fr (a' := { tmps := List.toArray ((.agg (vals .u8 32 f)) :: (.agg (vals .u8 32 g)) :: (.pointer (some ⟨n2, 0, none⟩)) :: z3 :: z4 :: zz), defers := [] }) (by kernel_rfl) ?_
  refine wpList_plain rfl (fun K hK => ?_)
  refine wp_new _ 22 (box_by _ _ _ _ g rfl (by kernel_rfl)) ?_
  intro n3 w1 eb Bn3 hbw
  have hS' := hS.call hbw
  refine hK _ _ ?_
  clear hK K
  have qgn2 : u.heap.size ≤ n2 := gn2
  have qBn2 : Blk w1 n2 (vals .u8 32 f) 22 := (Bn2.call hbw)
  have qgn3 : u.heap.size ≤ n3 := (by rw [eb]; exact hS.size)
  have qBn3 : Blk w1 n3 (vals .u8 32 g) 22 := Bn3
  have qen2n3 : n2 ≠ n3 := (by rw [eb]; exact Nat.ne_of_lt Bn2.lt)
  clear hS gn2 Bn2
  have gn2 := qgn2
  have Bn2 := qBn2
  have gn3 := qgn3
  have Bn3 := qBn3
  have en2n3 := qen2n3
  have hS := hS'
  clear hS' qgn2 qBn2 qgn3 qBn3 qen2n3
  refine wpList_fr (a' := { tmps := List.toArray ((.agg (vals .u8 32 f)) :: (.agg (vals .u8 32 g)) :: (.pointer (some ⟨n2, 0, none⟩)) :: (.pointer (some ⟨n3, 0, none⟩)) :: z4 :: zz), defers := [] }) (by kernel_rfl) ?_
  refine wpList_plain rfl (fun K hK => ?_)
  refine wp_new _ 22 (alloc_by _ _ _ rfl) ?_
  intro n4 w2 eb Bn4 hbw
  have hS' := hS.call hbw
  refine hK _ _ ?_
  clear hK K
  have qgn2 : u.heap.size ≤ n2 := gn2
  have qBn2 : Blk w2 n2 (vals .u8 32 f) 22 := (Bn2.call hbw)
  have qgn3 : u.heap.size ≤ n3 := gn3
  have qBn3 : Blk w2 n3 (vals .u8 32 g) 22 := (Bn3.call hbw)
  have qgn4 : u.heap.size ≤ n4 := (by rw [eb]; exact hS.size)
  have qBn4 : Blk w2 n4 (vals .u8 32 (fun _ => 0)) 22 := Bn4
  have qen2n3 : n2 ≠ n3 := en2n3
  have qen2n4 : n2 ≠ n4 := (by rw [eb]; exact Nat.ne_of_lt Bn2.lt)
  have qen3n4 : n3 ≠ n4 := (by rw [eb]; exact Nat.ne_of_lt Bn3.lt)
  clear hS gn2 Bn2 gn3 Bn3 en2n3
  have gn2 := qgn2
  have Bn2 := qBn2
  have gn3 := qgn3
  have Bn3 := qBn3
  have gn4 := qgn4
  have Bn4 := qBn4
  have en2n3 := qen2n3
  have en2n4 := qen2n4
  have en3n4 := qen3n4
  have hS := hS'
  clear hS' qgn2 qBn2 qgn3 qBn3 qgn4 qBn4 qen2n3 qen2n4 qen3n4
  refine wpList_fr (a' := { tmps := List.toArray ((.agg (vals .u8 32 f)) :: (.agg (vals .u8 32 g)) :: (.pointer (some ⟨n2, 0, none⟩)) :: (.pointer (some ⟨n3, 0, none⟩)) :: (.pointer (some ⟨n4, 0, none⟩)) :: zz), defers := [] }) (by kernel_rfl) ?_
  refine wpList_nil ?_
  exact H n2 n3 n4 w2 hS gn2 Bn2 gn3 Bn3 gn4 Bn4 en2n3 en2n4 en3n4
def mu1Op0 : Oper := { dst := some 17, op := Op.load 22 (Operand.tmp 2), type := 22, pos := "ladder.go:11", after := #[], guard := none }
def mu1Op1 : Oper := { dst := some 18, op := Op.call { callee := Callee.value (Operand.func 16), args := #[Operand.tmp 17], argTypes := #[22] }, type := 22, pos := "ladder.go:11", after := #[{ on := 0, ground := Ground.data }], guard := none }
def mu1Op2 : Oper := { dst := some 19, op := Op.load 22 (Operand.tmp 3), type := 22, pos := "ladder.go:11", after := #[], guard := none }
def mu1Op3 : Oper := { dst := some 20, op := Op.call { callee := Callee.value (Operand.func 17), args := #[Operand.tmp 19], argTypes := #[22] }, type := 32, pos := "ladder.go:11", after := #[{ on := 2, ground := Ground.data }, { on := 1, ground := Ground.chain }], guard := none }
def mu1Op4 : Oper := { dst := some 5, op := Op.alloc 22, type := 0, pos := "ladder.go:11", after := #[], guard := none }
def mu1Op5 : Oper := { dst := some 6, op := Op.alloc 32, type := 0, pos := "ladder.go:11", after := #[], guard := none }
def mu1Op6 : Oper := { dst := none, op := Op.store 22 (Operand.tmp 5) (Operand.tmp 18), type := 0, pos := "ladder.go:11", after := #[{ on := 4, ground := Ground.data }, { on := 1, ground := Ground.data }, { on := 3, ground := Ground.chain }, { on := 0, ground := Ground.phase }, { on := 1, ground := Ground.phase }, { on := 2, ground := Ground.textOnly Departure.lateStores }, { on := 3, ground := Ground.textOnly Departure.lateStoresUnsure }, { on := 4, ground := Ground.phase }, { on := 5, ground := Ground.phase }], guard := none }
def mu1Op7 : Oper := { dst := none, op := Op.store 32 (Operand.tmp 6) (Operand.tmp 20), type := 0, pos := "ladder.go:11", after := #[{ on := 5, ground := Ground.data }, { on := 3, ground := Ground.data }, { on := 6, ground := Ground.chain }, { on := 0, ground := Ground.phase }, { on := 1, ground := Ground.phase }, { on := 2, ground := Ground.phase }, { on := 3, ground := Ground.phase }, { on := 4, ground := Ground.phase }, { on := 5, ground := Ground.phase }, { on := 6, ground := Ground.phase }], guard := none }
def mu1Ops : Array Oper := #[mu1Op0, mu1Op1, mu1Op2, mu1Op3, mu1Op4, mu1Op5, mu1Op6, mu1Op7]
structure mu1C (Q : Exit → Act → World → Prop) (u : World) (z0 z1 z4 z5 z6 z7 z8 z9 z10 z11 z12 z13 z14 z15 z16 z17 z18 z19 z20 : Value) (zz : List Value) (b2 b3 : Nat) (f g : Nat → Nat) : Prop where
  hQ : ∀ c a w n v, Q (.panic c) (a.put (some n) v) w → Q (.panic c) a w
  hf : ∀ i, f i < 256
  hg : ∀ i, g i < 256
  hb2 : Blk u b2 (vals .u8 32 f) 22
  nb2 : b2 ∉ ([] : List Nat)
  hb3 : Blk u b3 (vals .u8 32 g) 22
  nb3 : b3 ∉ ([] : List Nat)
  H : ∀ (n5 : Nat) (n6 : Nat) (w : World), Kp [] u w → u.heap.size ≤ n5 → Blk w n5 (vals .u8 32 (clb f)) 22 → u.heap.size ≤ n6 → Blk w n6 (arr 4 (limb (co g))) 32 → n5 ≠ n6 → Q .normal { tmps := List.toArray (z0 :: z1 :: (.pointer (some ⟨b2, 0, none⟩)) :: (.pointer (some ⟨b3, 0, none⟩)) :: z4 :: (.pointer (some ⟨n5, 0, none⟩)) :: (.pointer (some ⟨n6, 0, none⟩)) :: z7 :: z8 :: z9 :: z10 :: z11 :: z12 :: z13 :: z14 :: z15 :: z16 :: (.agg (vals .u8 32 f)) :: (.agg (vals .u8 32 (clb f))) :: (.agg (vals .u8 32 g)) :: (.agg (arr 4 (limb (co g)))) :: zz), defers := [] } w
section
variable {Q : Exit → Act → World → Prop} {u : World} {z0 z1 z4 z5 z6 z7 z8 z9 z10 z11 z12 z13 z14 z15 z16 z17 z18 z19 z20 : Value} {zz : List Value} {b2 b3 : Nat} {f g : Nat → Nat}
set_option maxRecDepth 100000 in
set_option maxHeartbeats 2000000 in
theorem mu1_0 (C : mu1C Q u z0 z1 z4 z5 z6 z7 z8 z9 z10 z11 z12 z13 z14 z15 z16 z17 z18 z19 z20 zz b2 b3 f g) {n5 : Nat} {n6 : Nat} (w : World) (hS : Kp [] u w) (gn5 : u.heap.size ≤ n5) (Bn5 : Blk w n5 (vals .u8 32 (clb f)) 22) (gn6 : u.heap.size ≤ n6) (Bn6 : Blk w n6 (arr 4 (limb (co g))) 32) (en5n6 : n5 ≠ n6) :
    wpAnyH Try.prog .any mu1Ops Q (Kp [] u) 0 (List.toArray (true :: true :: true :: true :: true :: true :: true :: true :: [])) { tmps := List.toArray (z0 :: z1 :: (.pointer (some ⟨b2, 0, none⟩)) :: (.pointer (some ⟨b3, 0, none⟩)) :: z4 :: (.pointer (some ⟨n5, 0, none⟩)) :: (.pointer (some ⟨n6, 0, none⟩)) :: z7 :: z8 :: z9 :: z10 :: z11 :: z12 :: z13 :: z14 :: z15 :: z16 :: (.agg (vals .u8 32 f)) :: (.agg (vals .u8 32 (clb f))) :: (.agg (vals .u8 32 g)) :: (.agg (arr 4 (limb (co g)))) :: zz), defers := [] } w := by
  exact wpAnyH_done (by kernel_rfl) (C.H n5 n6 w hS gn5 Bn5 gn6 Bn6 en5n6) _
set_option maxRecDepth 100000 in
set_option maxHeartbeats 2000000 in
theorem mu1_1 (C : mu1C Q u z0 z1 z4 z5 z6 z7 z8 z9 z10 z11 z12 z13 z14 z15 z16 z17 z18 z19 z20 zz b2 b3 f g) {n5 : Nat} {n6 : Nat} (w : World) (hS : Kp [] u w) (gn5 : u.heap.size ≤ n5) (Bn5 : Blk w n5 (vals .u8 32 (clb f)) 22) (gn6 : u.heap.size ≤ n6) (Bn6 : Blk w n6 (arr 4 (fun _ => 0)) 32) (en5n6 : n5 ≠ n6) :
    wpAnyH Try.prog .any mu1Ops Q (Kp [] u) 1 (List.toArray (true :: true :: true :: true :: true :: true :: true :: false :: [])) { tmps := List.toArray (z0 :: z1 :: (.pointer (some ⟨b2, 0, none⟩)) :: (.pointer (some ⟨b3, 0, none⟩)) :: z4 :: (.pointer (some ⟨n5, 0, none⟩)) :: (.pointer (some ⟨n6, 0, none⟩)) :: z7 :: z8 :: z9 :: z10 :: z11 :: z12 :: z13 :: z14 :: z15 :: z16 :: (.agg (vals .u8 32 f)) :: (.agg (vals .u8 32 (clb f))) :: (.agg (vals .u8 32 g)) :: (.agg (arr 4 (limb (co g)))) :: zz), defers := [] } w := by
  obtain ⟨hQ, hf, hg, hb2, nb2, hb3, nb3, _⟩ := id C
  refine wpAnyH_ready (rs := [7]) (by kernel_rfl) (by simp) ?_
  refine AllReadyH.cons (o := mu1Op7) rfl (fun K hK => ?_) AllReadyH.nil
  rw [if_pos (by rfl)]
  refine wp_store_row 32 _ _ rfl n6 (arr 4 (limb (co g))) (by kernel_rfl) (by kernel_rfl) 32 _ Bn6 (size_fe _) (by rw [arr_size, arr_size]) (one_fe _) ?_
  have hS' := hS.new gn6 (arr 4 (limb (co g)))
  refine hK.out _ _ hS' (fun _ => ?_)
  exact wpAnyH_at (by kernel_rfl) (by kernel_rfl) (mu1_0 C (w.setRow n6 (arr 4 (limb (co g)))) hS' gn5 (Bn5.rowOther (arr 4 (limb (co g))) (Ne.symm en5n6)) gn6 (Bn6.row (arr 4 (limb (co g)))) en5n6)
set_option maxRecDepth 100000 in
set_option maxHeartbeats 2000000 in
theorem mu1_2 (C : mu1C Q u z0 z1 z4 z5 z6 z7 z8 z9 z10 z11 z12 z13 z14 z15 z16 z17 z18 z19 z20 zz b2 b3 f g) {n5 : Nat} {n6 : Nat} (w : World) (hS : Kp [] u w) (gn5 : u.heap.size ≤ n5) (Bn5 : Blk w n5 (vals .u8 32 (fun _ => 0)) 22) (gn6 : u.heap.size ≤ n6) (Bn6 : Blk w n6 (arr 4 (fun _ => 0)) 32) (en5n6 : n5 ≠ n6) :
    wpAnyH Try.prog .any mu1Ops Q (Kp [] u) 2 (List.toArray (true :: true :: true :: true :: true :: true :: false :: false :: [])) { tmps := List.toArray (z0 :: z1 :: (.pointer (some ⟨b2, 0, none⟩)) :: (.pointer (some ⟨b3, 0, none⟩)) :: z4 :: (.pointer (some ⟨n5, 0, none⟩)) :: (.pointer (some ⟨n6, 0, none⟩)) :: z7 :: z8 :: z9 :: z10 :: z11 :: z12 :: z13 :: z14 :: z15 :: z16 :: (.agg (vals .u8 32 f)) :: (.agg (vals .u8 32 (clb f))) :: (.agg (vals .u8 32 g)) :: (.agg (arr 4 (limb (co g)))) :: zz), defers := [] } w := by
  obtain ⟨hQ, hf, hg, hb2, nb2, hb3, nb3, _⟩ := id C
  refine wpAnyH_ready (rs := [6]) (by kernel_rfl) (by simp) ?_
  refine AllReadyH.cons (o := mu1Op6) rfl (fun K hK => ?_) AllReadyH.nil
  rw [if_pos (by rfl)]
  refine wp_store_row 22 _ _ rfl n5 (vals .u8 32 (clb f)) (by kernel_rfl) (by kernel_rfl) 22 _ Bn5 (size_by _) (by rw [vals_size, vals_size]) (vals_one _ _ _) ?_
  have hS' := hS.new gn5 (vals .u8 32 (clb f))
  refine hK.out _ _ hS' (fun _ => ?_)
  exact wpAnyH_at (by kernel_rfl) (by kernel_rfl) (mu1_1 C (w.setRow n5 (vals .u8 32 (clb f))) hS' gn5 (Bn5.row (vals .u8 32 (clb f))) gn6 (Bn6.rowOther (vals .u8 32 (clb f)) en5n6) en5n6)
set_option maxRecDepth 100000 in
set_option maxHeartbeats 2000000 in
theorem mu1_3 (C : mu1C Q u z0 z1 z4 z5 z6 z7 z8 z9 z10 z11 z12 z13 z14 z15 z16 z17 z18 z19 z20 zz b2 b3 f g) {n5 : Nat} {n6 : Nat} (w : World) (hS : Kp [] u w) (gn5 : u.heap.size ≤ n5) (Bn5 : Blk w n5 (vals .u8 32 (fun _ => 0)) 22) (gn6 : u.heap.size ≤ n6) (Bn6 : Blk w n6 (arr 4 (fun _ => 0)) 32) (en5n6 : n5 ≠ n6) :
    wpAnyH Try.prog .any mu1Ops Q (Kp [] u) 3 (List.toArray (true :: true :: true :: false :: true :: true :: false :: false :: [])) { tmps := List.toArray (z0 :: z1 :: (.pointer (some ⟨b2, 0, none⟩)) :: (.pointer (some ⟨b3, 0, none⟩)) :: z4 :: (.pointer (some ⟨n5, 0, none⟩)) :: (.pointer (some ⟨n6, 0, none⟩)) :: z7 :: z8 :: z9 :: z10 :: z11 :: z12 :: z13 :: z14 :: z15 :: z16 :: (.agg (vals .u8 32 f)) :: (.agg (vals .u8 32 (clb f))) :: (.agg (vals .u8 32 g)) :: z20 :: zz), defers := [] } w := by
  obtain ⟨hQ, hf, hg, hb2, nb2, hb3, nb3, _⟩ := id C
  refine wpAnyH_ready (rs := [3]) (by kernel_rfl) (by simp) ?_
  refine AllReadyH.cons (o := mu1Op3) rfl (fun K hK => ?_) AllReadyH.nil
  rw [if_pos (by rfl)]
  refine wp_call_val 17 #[.agg (vals .u8 32 g)] (by kernel_rfl) (.agg (arr 4 (limb (co g)))) (coordinate_c g _ hg) ?_
  intro w' hbw
  have hS' := hS.call hbw
  refine hK.out _ _ hS' (fun _ => ?_)
  exact wpAnyH_at (by kernel_rfl) (by kernel_rfl) (mu1_2 C w' hS' gn5 (Bn5.call hbw) gn6 (Bn6.call hbw) en5n6)
set_option maxRecDepth 100000 in
set_option maxHeartbeats 2000000 in
theorem mu1_4 (C : mu1C Q u z0 z1 z4 z5 z6 z7 z8 z9 z10 z11 z12 z13 z14 z15 z16 z17 z18 z19 z20 zz b2 b3 f g) {n6 : Nat} (w : World) (hS : Kp [] u w) (gn6 : u.heap.size ≤ n6) (Bn6 : Blk w n6 (arr 4 (fun _ => 0)) 32) :
    wpAnyH Try.prog .any mu1Ops Q (Kp [] u) 3 (List.toArray (true :: true :: true :: true :: false :: true :: false :: false :: [])) { tmps := List.toArray (z0 :: z1 :: (.pointer (some ⟨b2, 0, none⟩)) :: (.pointer (some ⟨b3, 0, none⟩)) :: z4 :: z5 :: (.pointer (some ⟨n6, 0, none⟩)) :: z7 :: z8 :: z9 :: z10 :: z11 :: z12 :: z13 :: z14 :: z15 :: z16 :: (.agg (vals .u8 32 f)) :: (.agg (vals .u8 32 (clb f))) :: (.agg (vals .u8 32 g)) :: (.agg (arr 4 (limb (co g)))) :: zz), defers := [] } w := by
  obtain ⟨hQ, hf, hg, hb2, nb2, hb3, nb3, _⟩ := id C
  refine wpAnyH_ready (rs := [4]) (by kernel_rfl) (by simp) ?_
  refine AllReadyH.cons (o := mu1Op4) rfl (fun K hK => ?_) AllReadyH.nil
  rw [if_pos (by rfl)]
  refine wp_new _ 22 (alloc_by _ _ _ rfl) ?_
  intro n5 w' eb Bn5 hbw
  have hS' := hS.call hbw
  refine hK.out _ _ hS' (fun _ => ?_)
  exact wpAnyH_at (by kernel_rfl) (by kernel_rfl) (mu1_2 C w' hS' (by rw [eb]; exact hS.size) Bn5 gn6 (Bn6.call hbw) (by rw [eb]; exact Nat.ne_of_gt Bn6.lt))
set_option maxRecDepth 100000 in
set_option maxHeartbeats 2000000 in
theorem mu1_5 (C : mu1C Q u z0 z1 z4 z5 z6 z7 z8 z9 z10 z11 z12 z13 z14 z15 z16 z17 z18 z19 z20 zz b2 b3 f g) {n5 : Nat} (w : World) (hS : Kp [] u w) (gn5 : u.heap.size ≤ n5) (Bn5 : Blk w n5 (vals .u8 32 (fun _ => 0)) 22) :
    wpAnyH Try.prog .any mu1Ops Q (Kp [] u) 3 (List.toArray (true :: true :: true :: true :: true :: false :: false :: false :: [])) { tmps := List.toArray (z0 :: z1 :: (.pointer (some ⟨b2, 0, none⟩)) :: (.pointer (some ⟨b3, 0, none⟩)) :: z4 :: (.pointer (some ⟨n5, 0, none⟩)) :: z6 :: z7 :: z8 :: z9 :: z10 :: z11 :: z12 :: z13 :: z14 :: z15 :: z16 :: (.agg (vals .u8 32 f)) :: (.agg (vals .u8 32 (clb f))) :: (.agg (vals .u8 32 g)) :: (.agg (arr 4 (limb (co g)))) :: zz), defers := [] } w := by
  obtain ⟨hQ, hf, hg, hb2, nb2, hb3, nb3, _⟩ := id C
  refine wpAnyH_ready (rs := [5]) (by kernel_rfl) (by simp) ?_
  refine AllReadyH.cons (o := mu1Op5) rfl (fun K hK => ?_) AllReadyH.nil
  rw [if_pos (by rfl)]
  refine wp_new _ 32 (alloc_fe _ _ _ rfl) ?_
  intro n6 w' eb Bn6 hbw
  have hS' := hS.call hbw
  refine hK.out _ _ hS' (fun _ => ?_)
  exact wpAnyH_at (by kernel_rfl) (by kernel_rfl) (mu1_2 C w' hS' gn5 (Bn5.call hbw) (by rw [eb]; exact hS.size) Bn6 (by rw [eb]; exact Nat.ne_of_lt Bn5.lt))
set_option maxRecDepth 100000 in
set_option maxHeartbeats 2000000 in
theorem mu1_6 (C : mu1C Q u z0 z1 z4 z5 z6 z7 z8 z9 z10 z11 z12 z13 z14 z15 z16 z17 z18 z19 z20 zz b2 b3 f g) {n5 : Nat} {n6 : Nat} (w : World) (hS : Kp [] u w) (gn5 : u.heap.size ≤ n5) (Bn5 : Blk w n5 (vals .u8 32 (fun _ => 0)) 22) (gn6 : u.heap.size ≤ n6) (Bn6 : Blk w n6 (arr 4 (fun _ => 0)) 32) (en5n6 : n5 ≠ n6) :
    wpAnyH Try.prog .any mu1Ops Q (Kp [] u) 4 (List.toArray (true :: false :: true :: false :: true :: true :: false :: false :: [])) { tmps := List.toArray (z0 :: z1 :: (.pointer (some ⟨b2, 0, none⟩)) :: (.pointer (some ⟨b3, 0, none⟩)) :: z4 :: (.pointer (some ⟨n5, 0, none⟩)) :: (.pointer (some ⟨n6, 0, none⟩)) :: z7 :: z8 :: z9 :: z10 :: z11 :: z12 :: z13 :: z14 :: z15 :: z16 :: (.agg (vals .u8 32 f)) :: z18 :: (.agg (vals .u8 32 g)) :: z20 :: zz), defers := [] } w := by
  obtain ⟨hQ, hf, hg, hb2, nb2, hb3, nb3, _⟩ := id C
  refine wpAnyH_ready (rs := [1]) (by kernel_rfl) (by simp) ?_
  refine AllReadyH.cons (o := mu1Op1) rfl (fun K hK => ?_) AllReadyH.nil
  rw [if_pos (by rfl)]
  refine wp_call_val 16 #[.agg (vals .u8 32 f)] (by kernel_rfl) (.agg (vals .u8 32 (clb f))) (scalarOf_c f _ hf) ?_
  intro w' hbw
  have hS' := hS.call hbw
  refine hK.out _ _ hS' (fun _ => ?_)
  exact wpAnyH_at (by kernel_rfl) (by kernel_rfl) (mu1_3 C w' hS' gn5 (Bn5.call hbw) gn6 (Bn6.call hbw) en5n6)
set_option maxRecDepth 100000 in
set_option maxHeartbeats 2000000 in
theorem mu1_7 (C : mu1C Q u z0 z1 z4 z5 z6 z7 z8 z9 z10 z11 z12 z13 z14 z15 z16 z17 z18 z19 z20 zz b2 b3 f g) {n6 : Nat} (w : World) (hS : Kp [] u w) (gn6 : u.heap.size ≤ n6) (Bn6 : Blk w n6 (arr 4 (fun _ => 0)) 32) :
    wpAnyH Try.prog .any mu1Ops Q (Kp [] u) 4 (List.toArray (true :: true :: true :: false :: false :: true :: false :: false :: [])) { tmps := List.toArray (z0 :: z1 :: (.pointer (some ⟨b2, 0, none⟩)) :: (.pointer (some ⟨b3, 0, none⟩)) :: z4 :: z5 :: (.pointer (some ⟨n6, 0, none⟩)) :: z7 :: z8 :: z9 :: z10 :: z11 :: z12 :: z13 :: z14 :: z15 :: z16 :: (.agg (vals .u8 32 f)) :: (.agg (vals .u8 32 (clb f))) :: (.agg (vals .u8 32 g)) :: z20 :: zz), defers := [] } w := by
  obtain ⟨hQ, hf, hg, hb2, nb2, hb3, nb3, _⟩ := id C
  refine wpAnyH_ready (rs := [3, 4]) (by kernel_rfl) (by simp) ?_
  refine AllReadyH.cons (o := mu1Op3) rfl (fun K hK => ?_) ?_
  · skip
    rw [if_pos (by rfl)]
    refine wp_call_val 17 #[.agg (vals .u8 32 g)] (by kernel_rfl) (.agg (arr 4 (limb (co g)))) (coordinate_c g _ hg) ?_
    intro w' hbw
    have hS' := hS.call hbw
    refine hK.out _ _ hS' (fun _ => ?_)
    exact wpAnyH_at (by kernel_rfl) (by kernel_rfl) (mu1_4 C w' hS' gn6 (Bn6.call hbw))
  refine AllReadyH.cons (o := mu1Op4) rfl (fun K hK => ?_) AllReadyH.nil
  rw [if_pos (by rfl)]
  refine wp_new _ 22 (alloc_by _ _ _ rfl) ?_
  intro n5 w' eb Bn5 hbw
  have hS' := hS.call hbw
  refine hK.out _ _ hS' (fun _ => ?_)
  exact wpAnyH_at (by kernel_rfl) (by kernel_rfl) (mu1_3 C w' hS' (by rw [eb]; exact hS.size) Bn5 gn6 (Bn6.call hbw) (by rw [eb]; exact Nat.ne_of_gt Bn6.lt))
set_option maxRecDepth 100000 in
set_option maxHeartbeats 2000000 in
theorem mu1_8 (C : mu1C Q u z0 z1 z4 z5 z6 z7 z8 z9 z10 z11 z12 z13 z14 z15 z16 z17 z18 z19 z20 zz b2 b3 f g) {n5 : Nat} (w : World) (hS : Kp [] u w) (gn5 : u.heap.size ≤ n5) (Bn5 : Blk w n5 (vals .u8 32 (fun _ => 0)) 22) :
    wpAnyH Try.prog .any mu1Ops Q (Kp [] u) 4 (List.toArray (true :: true :: true :: false :: true :: false :: false :: false :: [])) { tmps := List.toArray (z0 :: z1 :: (.pointer (some ⟨b2, 0, none⟩)) :: (.pointer (some ⟨b3, 0, none⟩)) :: z4 :: (.pointer (some ⟨n5, 0, none⟩)) :: z6 :: z7 :: z8 :: z9 :: z10 :: z11 :: z12 :: z13 :: z14 :: z15 :: z16 :: (.agg (vals .u8 32 f)) :: (.agg (vals .u8 32 (clb f))) :: (.agg (vals .u8 32 g)) :: z20 :: zz), defers := [] } w := by
  obtain ⟨hQ, hf, hg, hb2, nb2, hb3, nb3, _⟩ := id C
  refine wpAnyH_ready (rs := [3, 5]) (by kernel_rfl) (by simp) ?_
  refine AllReadyH.cons (o := mu1Op3) rfl (fun K hK => ?_) ?_
  · skip
    rw [if_pos (by rfl)]
    refine wp_call_val 17 #[.agg (vals .u8 32 g)] (by kernel_rfl) (.agg (arr 4 (limb (co g)))) (coordinate_c g _ hg) ?_
    intro w' hbw
    have hS' := hS.call hbw
    refine hK.out _ _ hS' (fun _ => ?_)
    exact wpAnyH_at (by kernel_rfl) (by kernel_rfl) (mu1_5 C w' hS' gn5 (Bn5.call hbw))
  refine AllReadyH.cons (o := mu1Op5) rfl (fun K hK => ?_) AllReadyH.nil
  rw [if_pos (by rfl)]
  refine wp_new _ 32 (alloc_fe _ _ _ rfl) ?_
  intro n6 w' eb Bn6 hbw
  have hS' := hS.call hbw
  refine hK.out _ _ hS' (fun _ => ?_)
  exact wpAnyH_at (by kernel_rfl) (by kernel_rfl) (mu1_3 C w' hS' gn5 (Bn5.call hbw) (by rw [eb]; exact hS.size) Bn6 (by rw [eb]; exact Nat.ne_of_lt Bn5.lt))
set_option maxRecDepth 100000 in
set_option maxHeartbeats 2000000 in
theorem mu1_9 (C : mu1C Q u z0 z1 z4 z5 z6 z7 z8 z9 z10 z11 z12 z13 z14 z15 z16 z17 z18 z19 z20 zz b2 b3 f g) (w : World) (hS : Kp [] u w) :
    wpAnyH Try.prog .any mu1Ops Q (Kp [] u) 4 (List.toArray (true :: true :: true :: true :: false :: false :: false :: false :: [])) { tmps := List.toArray (z0 :: z1 :: (.pointer (some ⟨b2, 0, none⟩)) :: (.pointer (some ⟨b3, 0, none⟩)) :: z4 :: z5 :: z6 :: z7 :: z8 :: z9 :: z10 :: z11 :: z12 :: z13 :: z14 :: z15 :: z16 :: (.agg (vals .u8 32 f)) :: (.agg (vals .u8 32 (clb f))) :: (.agg (vals .u8 32 g)) :: (.agg (arr 4 (limb (co g)))) :: zz), defers := [] } w := by
  obtain ⟨hQ, hf, hg, hb2, nb2, hb3, nb3, _⟩ := id C
  refine wpAnyH_ready (rs := [4, 5]) (by kernel_rfl) (by simp) ?_
  refine AllReadyH.cons (o := mu1Op4) rfl (fun K hK => ?_) ?_
  · skip
    rw [if_pos (by rfl)]
    refine wp_new _ 22 (alloc_by _ _ _ rfl) ?_
    intro n5 w' eb Bn5 hbw
    have hS' := hS.call hbw
    refine hK.out _ _ hS' (fun _ => ?_)
    exact wpAnyH_at (by kernel_rfl) (by kernel_rfl) (mu1_5 C w' hS' (by rw [eb]; exact hS.size) Bn5)
  refine AllReadyH.cons (o := mu1Op5) rfl (fun K hK => ?_) AllReadyH.nil
  rw [if_pos (by rfl)]
  refine wp_new _ 32 (alloc_fe _ _ _ rfl) ?_
  intro n6 w' eb Bn6 hbw
  have hS' := hS.call hbw
  refine hK.out _ _ hS' (fun _ => ?_)
  exact wpAnyH_at (by kernel_rfl) (by kernel_rfl) (mu1_4 C w' hS' (by rw [eb]; exact hS.size) Bn6)
set_option maxRecDepth 100000 in
set_option maxHeartbeats 2000000 in
theorem mu1_10 (C : mu1C Q u z0 z1 z4 z5 z6 z7 z8 z9 z10 z11 z12 z13 z14 z15 z16 z17 z18 z19 z20 zz b2 b3 f g) {n6 : Nat} (w : World) (hS : Kp [] u w) (gn6 : u.heap.size ≤ n6) (Bn6 : Blk w n6 (arr 4 (fun _ => 0)) 32) :
    wpAnyH Try.prog .any mu1Ops Q (Kp [] u) 5 (List.toArray (true :: false :: true :: false :: false :: true :: false :: false :: [])) { tmps := List.toArray (z0 :: z1 :: (.pointer (some ⟨b2, 0, none⟩)) :: (.pointer (some ⟨b3, 0, none⟩)) :: z4 :: z5 :: (.pointer (some ⟨n6, 0, none⟩)) :: z7 :: z8 :: z9 :: z10 :: z11 :: z12 :: z13 :: z14 :: z15 :: z16 :: (.agg (vals .u8 32 f)) :: z18 :: (.agg (vals .u8 32 g)) :: z20 :: zz), defers := [] } w := by
  obtain ⟨hQ, hf, hg, hb2, nb2, hb3, nb3, _⟩ := id C
  refine wpAnyH_ready (rs := [1, 4]) (by kernel_rfl) (by simp) ?_
  refine AllReadyH.cons (o := mu1Op1) rfl (fun K hK => ?_) ?_
  · skip
    rw [if_pos (by rfl)]
    refine wp_call_val 16 #[.agg (vals .u8 32 f)] (by kernel_rfl) (.agg (vals .u8 32 (clb f))) (scalarOf_c f _ hf) ?_
    intro w' hbw
    have hS' := hS.call hbw
    refine hK.out _ _ hS' (fun _ => ?_)
    exact wpAnyH_at (by kernel_rfl) (by kernel_rfl) (mu1_7 C w' hS' gn6 (Bn6.call hbw))
  refine AllReadyH.cons (o := mu1Op4) rfl (fun K hK => ?_) AllReadyH.nil
  rw [if_pos (by rfl)]
  refine wp_new _ 22 (alloc_by _ _ _ rfl) ?_
  intro n5 w' eb Bn5 hbw
  have hS' := hS.call hbw
  refine hK.out _ _ hS' (fun _ => ?_)
  exact wpAnyH_at (by kernel_rfl) (by kernel_rfl) (mu1_6 C w' hS' (by rw [eb]; exact hS.size) Bn5 gn6 (Bn6.call hbw) (by rw [eb]; exact Nat.ne_of_gt Bn6.lt))
set_option maxRecDepth 100000 in
set_option maxHeartbeats 2000000 in
theorem mu1_11 (C : mu1C Q u z0 z1 z4 z5 z6 z7 z8 z9 z10 z11 z12 z13 z14 z15 z16 z17 z18 z19 z20 zz b2 b3 f g) {n5 : Nat} (w : World) (hS : Kp [] u w) (gn5 : u.heap.size ≤ n5) (Bn5 : Blk w n5 (vals .u8 32 (fun _ => 0)) 22) :
    wpAnyH Try.prog .any mu1Ops Q (Kp [] u) 5 (List.toArray (true :: false :: true :: false :: true :: false :: false :: false :: [])) { tmps := List.toArray (z0 :: z1 :: (.pointer (some ⟨b2, 0, none⟩)) :: (.pointer (some ⟨b3, 0, none⟩)) :: z4 :: (.pointer (some ⟨n5, 0, none⟩)) :: z6 :: z7 :: z8 :: z9 :: z10 :: z11 :: z12 :: z13 :: z14 :: z15 :: z16 :: (.agg (vals .u8 32 f)) :: z18 :: (.agg (vals .u8 32 g)) :: z20 :: zz), defers := [] } w := by
  obtain ⟨hQ, hf, hg, hb2, nb2, hb3, nb3, _⟩ := id C
  refine wpAnyH_ready (rs := [1, 5]) (by kernel_rfl) (by simp) ?_
  refine AllReadyH.cons (o := mu1Op1) rfl (fun K hK => ?_) ?_
  · skip
    rw [if_pos (by rfl)]
    refine wp_call_val 16 #[.agg (vals .u8 32 f)] (by kernel_rfl) (.agg (vals .u8 32 (clb f))) (scalarOf_c f _ hf) ?_
    intro w' hbw
    have hS' := hS.call hbw
    refine hK.out _ _ hS' (fun _ => ?_)
    exact wpAnyH_at (by kernel_rfl) (by kernel_rfl) (mu1_8 C w' hS' gn5 (Bn5.call hbw))
  refine AllReadyH.cons (o := mu1Op5) rfl (fun K hK => ?_) AllReadyH.nil
  rw [if_pos (by rfl)]
  refine wp_new _ 32 (alloc_fe _ _ _ rfl) ?_
  intro n6 w' eb Bn6 hbw
  have hS' := hS.call hbw
  refine hK.out _ _ hS' (fun _ => ?_)
  exact wpAnyH_at (by kernel_rfl) (by kernel_rfl) (mu1_6 C w' hS' gn5 (Bn5.call hbw) (by rw [eb]; exact hS.size) Bn6 (by rw [eb]; exact Nat.ne_of_lt Bn5.lt))
set_option maxRecDepth 100000 in
set_option maxHeartbeats 2000000 in
theorem mu1_12 (C : mu1C Q u z0 z1 z4 z5 z6 z7 z8 z9 z10 z11 z12 z13 z14 z15 z16 z17 z18 z19 z20 zz b2 b3 f g) (w : World) (hS : Kp [] u w) :
    wpAnyH Try.prog .any mu1Ops Q (Kp [] u) 5 (List.toArray (true :: true :: true :: false :: false :: false :: false :: false :: [])) { tmps := List.toArray (z0 :: z1 :: (.pointer (some ⟨b2, 0, none⟩)) :: (.pointer (some ⟨b3, 0, none⟩)) :: z4 :: z5 :: z6 :: z7 :: z8 :: z9 :: z10 :: z11 :: z12 :: z13 :: z14 :: z15 :: z16 :: (.agg (vals .u8 32 f)) :: (.agg (vals .u8 32 (clb f))) :: (.agg (vals .u8 32 g)) :: z20 :: zz), defers := [] } w := by
  obtain ⟨hQ, hf, hg, hb2, nb2, hb3, nb3, _⟩ := id C
  refine wpAnyH_ready (rs := [3, 4, 5]) (by kernel_rfl) (by simp) ?_
  refine AllReadyH.cons (o := mu1Op3) rfl (fun K hK => ?_) ?_
  · skip
    rw [if_pos (by rfl)]
    refine wp_call_val 17 #[.agg (vals .u8 32 g)] (by kernel_rfl) (.agg (arr 4 (limb (co g)))) (coordinate_c g _ hg) ?_
    intro w' hbw
    have hS' := hS.call hbw
    refine hK.out _ _ hS' (fun _ => ?_)
    exact wpAnyH_at (by kernel_rfl) (by kernel_rfl) (mu1_9 C w' hS' )
  refine AllReadyH.cons (o := mu1Op4) rfl (fun K hK => ?_) ?_
  · skip
    rw [if_pos (by rfl)]
    refine wp_new _ 22 (alloc_by _ _ _ rfl) ?_
    intro n5 w' eb Bn5 hbw
    have hS' := hS.call hbw
    refine hK.out _ _ hS' (fun _ => ?_)
    exact wpAnyH_at (by kernel_rfl) (by kernel_rfl) (mu1_8 C w' hS' (by rw [eb]; exact hS.size) Bn5)
  refine AllReadyH.cons (o := mu1Op5) rfl (fun K hK => ?_) AllReadyH.nil
  rw [if_pos (by rfl)]
  refine wp_new _ 32 (alloc_fe _ _ _ rfl) ?_
  intro n6 w' eb Bn6 hbw
  have hS' := hS.call hbw
  refine hK.out _ _ hS' (fun _ => ?_)
  exact wpAnyH_at (by kernel_rfl) (by kernel_rfl) (mu1_7 C w' hS' (by rw [eb]; exact hS.size) Bn6)
set_option maxRecDepth 100000 in
set_option maxHeartbeats 2000000 in
theorem mu1_13 (C : mu1C Q u z0 z1 z4 z5 z6 z7 z8 z9 z10 z11 z12 z13 z14 z15 z16 z17 z18 z19 z20 zz b2 b3 f g) (w : World) (hS : Kp [] u w) :
    wpAnyH Try.prog .any mu1Ops Q (Kp [] u) 6 (List.toArray (true :: false :: true :: false :: false :: false :: false :: false :: [])) { tmps := List.toArray (z0 :: z1 :: (.pointer (some ⟨b2, 0, none⟩)) :: (.pointer (some ⟨b3, 0, none⟩)) :: z4 :: z5 :: z6 :: z7 :: z8 :: z9 :: z10 :: z11 :: z12 :: z13 :: z14 :: z15 :: z16 :: (.agg (vals .u8 32 f)) :: z18 :: (.agg (vals .u8 32 g)) :: z20 :: zz), defers := [] } w := by
  obtain ⟨hQ, hf, hg, hb2, nb2, hb3, nb3, _⟩ := id C
  refine wpAnyH_ready (rs := [1, 4, 5]) (by kernel_rfl) (by simp) ?_
  refine AllReadyH.cons (o := mu1Op1) rfl (fun K hK => ?_) ?_
  · skip
    rw [if_pos (by rfl)]
    refine wp_call_val 16 #[.agg (vals .u8 32 f)] (by kernel_rfl) (.agg (vals .u8 32 (clb f))) (scalarOf_c f _ hf) ?_
    intro w' hbw
    have hS' := hS.call hbw
    refine hK.out _ _ hS' (fun _ => ?_)
    exact wpAnyH_at (by kernel_rfl) (by kernel_rfl) (mu1_12 C w' hS' )
  refine AllReadyH.cons (o := mu1Op4) rfl (fun K hK => ?_) ?_
  · skip
    rw [if_pos (by rfl)]
    refine wp_new _ 22 (alloc_by _ _ _ rfl) ?_
    intro n5 w' eb Bn5 hbw
    have hS' := hS.call hbw
    refine hK.out _ _ hS' (fun _ => ?_)
    exact wpAnyH_at (by kernel_rfl) (by kernel_rfl) (mu1_11 C w' hS' (by rw [eb]; exact hS.size) Bn5)
  refine AllReadyH.cons (o := mu1Op5) rfl (fun K hK => ?_) AllReadyH.nil
  rw [if_pos (by rfl)]
  refine wp_new _ 32 (alloc_fe _ _ _ rfl) ?_
  intro n6 w' eb Bn6 hbw
  have hS' := hS.call hbw
  refine hK.out _ _ hS' (fun _ => ?_)
  exact wpAnyH_at (by kernel_rfl) (by kernel_rfl) (mu1_10 C w' hS' (by rw [eb]; exact hS.size) Bn6)
end
set_option maxRecDepth 100000 in
set_option maxHeartbeats 2000000 in
theorem mu1_region (Q : Exit → Act → World → Prop) (hQ : ∀ c a w n v, Q (.panic c) (a.put (some n) v) w → Q (.panic c) a w) (u : World) (z0 z1 z4 z5 z6 z7 z8 z9 z10 z11 z12 z13 z14 z15 z16 z17 z18 z19 z20 : Value) (zz : List Value) (b2 b3 : Nat) (f g : Nat → Nat) (hf : ∀ i, f i < 256) (hg : ∀ i, g i < 256) (hb2 : Blk u b2 (vals .u8 32 f) 22) (nb2 : b2 ∉ ([] : List Nat)) (hb3 : Blk u b3 (vals .u8 32 g) 22) (nb3 : b3 ∉ ([] : List Nat)) (H : ∀ (n5 : Nat) (n6 : Nat) (w : World), Kp [] u w → u.heap.size ≤ n5 → Blk w n5 (vals .u8 32 (clb f)) 22 → u.heap.size ≤ n6 → Blk w n6 (arr 4 (limb (co g))) 32 → n5 ≠ n6 → Q .normal { tmps := List.toArray (z0 :: z1 :: (.pointer (some ⟨b2, 0, none⟩)) :: (.pointer (some ⟨b3, 0, none⟩)) :: z4 :: (.pointer (some ⟨n5, 0, none⟩)) :: (.pointer (some ⟨n6, 0, none⟩)) :: z7 :: z8 :: z9 :: z10 :: z11 :: z12 :: z13 :: z14 :: z15 :: z16 :: (.agg (vals .u8 32 f)) :: (.agg (vals .u8 32 (clb f))) :: (.agg (vals .u8 32 g)) :: (.agg (arr 4 (limb (co g)))) :: zz), defers := [] } w) :
    (Code.region 1 mu1Ops true).wp Try.prog Q { tmps := List.toArray (z0 :: z1 :: (.pointer (some ⟨b2, 0, none⟩)) :: (.pointer (some ⟨b3, 0, none⟩)) :: z4 :: z5 :: z6 :: z7 :: z8 :: z9 :: z10 :: z11 :: z12 :: z13 :: z14 :: z15 :: z16 :: z17 :: z18 :: z19 :: z20 :: zz), defers := [] } u := by
  have C : mu1C Q u z0 z1 z4 z5 z6 z7 z8 z9 z10 z11 z12 z13 z14 z15 z16 z17 z18 z19 z20 zz b2 b3 f g := ⟨hQ, hf, hg, hb2, nb2, hb3, nb3, H⟩
  refine wp_region_held_drew (S := (Kp [] u)) (by kernel_rfl) (Kp.drew _ u) (fun hS' => ?_)
  refine wpAnyH_take (i := 0) (oi := mu1Op0) (v := .agg (vals .u8 32 f)) rfl (by kernel_rfl) (by kernel_rfl) (by kernel_rfl) (fun _ _ _ => hQ _ _ _ _ _) (yields_S (fun _ h => h.keep _ _ _ nb2 hb2) (by kernel_rfl) 22 _ rfl (by kernel_rfl) _ Try.underlying22 rfl (size_by _)) hS' ?_
  refine wpAnyH_take (i := 2) (oi := mu1Op2) (v := .agg (vals .u8 32 g)) rfl (by kernel_rfl) (by kernel_rfl) (by kernel_rfl) (fun _ _ _ => hQ _ _ _ _ _) (yields_S (fun _ h => h.keep _ _ _ nb3 hb3) (by kernel_rfl) 22 _ rfl (by kernel_rfl) _ Try.underlying22 rfl (size_by _)) hS' ?_
  exact wpAnyH_at (by kernel_rfl) (by kernel_rfl) (mu1_13 C u.drew hS' )
def mu2Op0 : Oper := { dst := some 21, op := Op.build 22 #[(0, Operand.const (Value.int IntKind.u8 1))], type := 22, pos := "ladder.go:12", after := #[], guard := none }
def mu2Op1 : Oper := { dst := some 22, op := Op.call { callee := Callee.value (Operand.func 13), args := #[Operand.tmp 21], argTypes := #[22] }, type := 32, pos := "ladder.go:12", after := #[{ on := 0, ground := Ground.data }], guard := none }
def mu2Op2 : Oper := { dst := some 7, op := Op.alloc 32, type := 0, pos := "ladder.go:12", after := #[], guard := none }
def mu2Op3 : Oper := { dst := none, op := Op.store 32 (Operand.tmp 7) (Operand.tmp 22), type := 0, pos := "ladder.go:12", after := #[{ on := 2, ground := Ground.data }, { on := 1, ground := Ground.data }, { on := 1, ground := Ground.chain }, { on := 0, ground := Ground.phase }, { on := 1, ground := Ground.phase }, { on := 2, ground := Ground.phase }], guard := none }
def mu2Ops : Array Oper := #[mu2Op0, mu2Op1, mu2Op2, mu2Op3]
set_option maxRecDepth 100000 in
set_option maxHeartbeats 2000000 in
theorem mu2_region (Q : Exit → Act → World → Prop) (hQ : ∀ c a w n v, Q (.panic c) (a.put (some n) v) w → Q (.panic c) a w) (u : World) (z0 z1 z2 z3 z4 z5 z6 z7 z8 z9 z10 z11 z12 z13 z14 z15 z16 z17 z18 z19 z20 z21 z22 : Value) (zz : List Value) (H : ∀ (n7 : Nat) (w : World), Kp [] u w → u.heap.size ≤ n7 → Blk w n7 (arr 4 (limb 1)) 32 → Q .normal { tmps := List.toArray (z0 :: z1 :: z2 :: z3 :: z4 :: z5 :: z6 :: (.pointer (some ⟨n7, 0, none⟩)) :: z8 :: z9 :: z10 :: z11 :: z12 :: z13 :: z14 :: z15 :: z16 :: z17 :: z18 :: z19 :: z20 :: (.agg (vals .u8 32 (oneB 1))) :: (.agg (arr 4 (limb 1))) :: zz), defers := [] } w) :
    (Code.region 2 mu2Ops false).wp Try.prog Q { tmps := List.toArray (z0 :: z1 :: z2 :: z3 :: z4 :: z5 :: z6 :: z7 :: z8 :: z9 :: z10 :: z11 :: z12 :: z13 :: z14 :: z15 :: z16 :: z17 :: z18 :: z19 :: z20 :: z21 :: z22 :: zz), defers := [] } u := by
  have _ := hQ
  have _ := u
  have _ := z0
  have _ := z1
  have _ := z2
  have _ := z3
  have _ := z4
  have _ := z5
  have _ := z6
  have _ := z7
  have _ := z8
  have _ := z9
  have _ := z10
  have _ := z11
  have _ := z12
  have _ := z13
  have _ := z14
  have _ := z15
  have _ := z16
  have _ := z17
  have _ := z18
  have _ := z19
  have _ := z20
  have _ := z21
  have _ := z22
  have _ := zz
  refine wp_region_list (show wpList _ mu2Ops _ [mu2Op0, mu2Op1, mu2Op2, mu2Op3] _ _ from ?_)
  have hS : Kp [] u u := Kp.refl _ u
  refine wpList_plain rfl (fun K hK => ?_)
  refine wp_val (.agg (vals .u8 32 (oneB 1))) (by kernel_rfl) ?_
  have hS' := hS
  refine hK _ _ ?_
  clear hK K
  clear hS
  have hS := hS'
  clear hS'
  refine wpList_fr (a' := { tmps := List.toArray (z0 :: z1 :: z2 :: z3 :: z4 :: z5 :: z6 :: z7 :: z8 :: z9 :: z10 :: z11 :: z12 :: z13 :: z14 :: z15 :: z16 :: z17 :: z18 :: z19 :: z20 :: (.agg (vals .u8 32 (oneB 1))) :: z22 :: zz), defers := [] }) (by kernel_rfl) ?_
  refine wpList_plain rfl (fun K hK => ?_)
  refine wp_call_val 13 #[.agg (vals .u8 32 (oneB 1))] (by kernel_rfl) (.agg (arr 4 (limb 1))) (one_c _) ?_
  intro w1 hbw
  have hS' := hS.call hbw
  refine hK _ _ ?_
  clear hK K
  clear hS
  have hS := hS'
  clear hS'
  refine wpList_fr (a' := { tmps := List.toArray (z0 :: z1 :: z2 :: z3 :: z4 :: z5 :: z6 :: z7 :: z8 :: z9 :: z10 :: z11 :: z12 :: z13 :: z14 :: z15 :: z16 :: z17 :: z18 :: z19 :: z20 :: (.agg (vals .u8 32 (oneB 1))) :: (.agg (arr 4 (limb 1))) :: zz), defers := [] }) (by kernel_rfl) ?_
  refine wpList_plain rfl (fun K hK => ?_)
  refine wp_new _ 32 (alloc_fe _ _ _ rfl) ?_
  intro n7 w2 eb Bn7 hbw
  have hS' := hS.call hbw
  refine hK _ _ ?_
  clear hK K
  have qgn7 : u.heap.size ≤ n7 := (by rw [eb]; exact hS.size)
  have qBn7 : Blk w2 n7 (arr 4 (fun _ => 0)) 32 := Bn7
  clear hS
  have gn7 := qgn7
  have Bn7 := qBn7
  have hS := hS'
  clear hS' qgn7 qBn7
  refine wpList_fr (a' := { tmps := List.toArray (z0 :: z1 :: z2 :: z3 :: z4 :: z5 :: z6 :: (.pointer (some ⟨n7, 0, none⟩)) :: z8 :: z9 :: z10 :: z11 :: z12 :: z13 :: z14 :: z15 :: z16 :: z17 :: z18 :: z19 :: z20 :: (.agg (vals .u8 32 (oneB 1))) :: (.agg (arr 4 (limb 1))) :: zz), defers := [] }) (by kernel_rfl) ?_
  refine wpList_plain rfl (fun K hK => ?_)
  refine wp_store_row 32 _ _ rfl n7 (arr 4 (limb 1)) (by kernel_rfl) (by kernel_rfl) 32 _ Bn7 (size_fe _) (by rw [arr_size, arr_size]) (one_fe _) ?_
  have hS' := hS.new gn7 (arr 4 (limb 1))
  refine hK _ _ ?_
  clear hK K
  have qgn7 : u.heap.size ≤ n7 := gn7
  have qBn7 : Blk (w2.setRow n7 (arr 4 (limb 1))) n7 (arr 4 (limb 1)) 32 := (Bn7.row (arr 4 (limb 1)))
  clear hS gn7 Bn7
  have gn7 := qgn7
  have Bn7 := qBn7
  have hS := hS'
  clear hS' qgn7 qBn7
  refine wpList_fr (a' := { tmps := List.toArray (z0 :: z1 :: z2 :: z3 :: z4 :: z5 :: z6 :: (.pointer (some ⟨n7, 0, none⟩)) :: z8 :: z9 :: z10 :: z11 :: z12 :: z13 :: z14 :: z15 :: z16 :: z17 :: z18 :: z19 :: z20 :: (.agg (vals .u8 32 (oneB 1))) :: (.agg (arr 4 (limb 1))) :: zz), defers := [] }) (by kernel_rfl) ?_
  generalize (w2.setRow n7 (arr 4 (limb 1))) = w3 at *
  refine wpList_nil ?_
  exact H n7 w3 hS gn7 Bn7
def mu3Op0 : Oper := { dst := some 23, op := Op.load 32 (Operand.tmp 7), type := 32, pos := "ladder.go:13", after := #[], guard := none }
def mu3Op1 : Oper := { dst := some 24, op := Op.build 32 #[], type := 32, pos := "ladder.go:13", after := #[], guard := none }
def mu3Op2 : Oper := { dst := some 25, op := Op.load 32 (Operand.tmp 6), type := 32, pos := "ladder.go:13", after := #[{ on := 9, ground := Ground.gcOnly Departure.lateStores }], guard := none }
def mu3Op3 : Oper := { dst := some 26, op := Op.load 32 (Operand.tmp 7), type := 32, pos := "ladder.go:13", after := #[{ on := 10, ground := Ground.gcOnly Departure.lateStores }], guard := none }
def mu3Op4 : Oper := { dst := some 8, op := Op.alloc 32, type := 0, pos := "ladder.go:13", after := #[], guard := none }
def mu3Op5 : Oper := { dst := some 9, op := Op.alloc 32, type := 0, pos := "ladder.go:13", after := #[], guard := none }
def mu3Op6 : Oper := { dst := some 10, op := Op.alloc 32, type := 0, pos := "ladder.go:13", after := #[], guard := none }
def mu3Op7 : Oper := { dst := some 11, op := Op.alloc 32, type := 0, pos := "ladder.go:13", after := #[], guard := none }
def mu3Op8 : Oper := { dst := none, op := Op.store 32 (Operand.tmp 8) (Operand.tmp 23), type := 0, pos := "ladder.go:13", after := #[{ on := 4, ground := Ground.data }, { on := 0, ground := Ground.data }, { on := 0, ground := Ground.phase }, { on := 1, ground := Ground.textOnly Departure.inlinedCapture }, { on := 2, ground := Ground.textOnly Departure.lateStores }, { on := 3, ground := Ground.textOnly Departure.lateStores }, { on := 4, ground := Ground.phase }, { on := 5, ground := Ground.phase }, { on := 6, ground := Ground.phase }, { on := 7, ground := Ground.phase }], guard := none }
def mu3Op9 : Oper := { dst := none, op := Op.store 32 (Operand.tmp 9) (Operand.tmp 24), type := 0, pos := "ladder.go:13", after := #[{ on := 5, ground := Ground.data }, { on := 1, ground := Ground.data }, { on := 8, ground := Ground.chain }, { on := 0, ground := Ground.phase }, { on := 1, ground := Ground.phase }, { on := 2, ground := Ground.textOnly Departure.lateStores }, { on := 3, ground := Ground.textOnly Departure.lateStores }, { on := 4, ground := Ground.phase }, { on := 5, ground := Ground.phase }, { on := 6, ground := Ground.phase }, { on := 7, ground := Ground.phase }, { on := 8, ground := Ground.phase }], guard := none }
def mu3Op10 : Oper := { dst := none, op := Op.store 32 (Operand.tmp 10) (Operand.tmp 25), type := 0, pos := "ladder.go:13", after := #[{ on := 6, ground := Ground.data }, { on := 2, ground := Ground.data }, { on := 9, ground := Ground.chain }, { on := 0, ground := Ground.phase }, { on := 1, ground := Ground.phase }, { on := 2, ground := Ground.phase }, { on := 3, ground := Ground.textOnly Departure.lateStores }, { on := 4, ground := Ground.phase }, { on := 5, ground := Ground.phase }, { on := 6, ground := Ground.phase }, { on := 7, ground := Ground.phase }, { on := 8, ground := Ground.phase }, { on := 9, ground := Ground.phase }], guard := none }
def mu3Op11 : Oper := { dst := none, op := Op.store 32 (Operand.tmp 11) (Operand.tmp 26), type := 0, pos := "ladder.go:13", after := #[{ on := 7, ground := Ground.data }, { on := 3, ground := Ground.data }, { on := 10, ground := Ground.chain }, { on := 0, ground := Ground.phase }, { on := 1, ground := Ground.phase }, { on := 2, ground := Ground.phase }, { on := 3, ground := Ground.phase }, { on := 4, ground := Ground.phase }, { on := 5, ground := Ground.phase }, { on := 6, ground := Ground.phase }, { on := 7, ground := Ground.phase }, { on := 8, ground := Ground.phase }, { on := 9, ground := Ground.phase }, { on := 10, ground := Ground.phase }], guard := none }
def mu3Ops : Array Oper := #[mu3Op0, mu3Op1, mu3Op2, mu3Op3, mu3Op4, mu3Op5, mu3Op6, mu3Op7, mu3Op8, mu3Op9, mu3Op10, mu3Op11]
structure mu3C (Q : Exit → Act → World → Prop) (u : World) (z0 z1 z2 z3 z4 z5 z8 z9 z10 z11 z12 z13 z14 z15 z16 z17 z18 z19 z20 z21 z22 z23 z24 z25 z26 : Value) (zz : List Value) (b6 b7 : Nat) (u0 : Nat) : Prop where
  hQ : ∀ c a w n v, Q (.panic c) (a.put (some n) v) w → Q (.panic c) a w
  hb6 : Blk u b6 (arr 4 (limb u0)) 32
  nb6 : b6 ∉ ([] : List Nat)
  hb7 : Blk u b7 (arr 4 (limb 1)) 32
  nb7 : b7 ∉ ([] : List Nat)
  H : ∀ (n8 : Nat) (n9 : Nat) (n10 : Nat) (n11 : Nat) (w : World), Kp [] u w → u.heap.size ≤ n8 → Blk w n8 (arr 4 (limb 1)) 32 → u.heap.size ≤ n9 → Blk w n9 (arr 4 (limb 0)) 32 → u.heap.size ≤ n10 → Blk w n10 (arr 4 (limb u0)) 32 → u.heap.size ≤ n11 → Blk w n11 (arr 4 (limb 1)) 32 → n8 ≠ n9 → n8 ≠ n10 → n8 ≠ n11 → n9 ≠ n10 → n9 ≠ n11 → n10 ≠ n11 → Q .normal { tmps := List.toArray (z0 :: z1 :: z2 :: z3 :: z4 :: z5 :: (.pointer (some ⟨b6, 0, none⟩)) :: (.pointer (some ⟨b7, 0, none⟩)) :: (.pointer (some ⟨n8, 0, none⟩)) :: (.pointer (some ⟨n9, 0, none⟩)) :: (.pointer (some ⟨n10, 0, none⟩)) :: (.pointer (some ⟨n11, 0, none⟩)) :: z12 :: z13 :: z14 :: z15 :: z16 :: z17 :: z18 :: z19 :: z20 :: z21 :: z22 :: (.agg (arr 4 (limb 1))) :: (.agg (arr 4 (limb 0))) :: (.agg (arr 4 (limb u0))) :: (.agg (arr 4 (limb 1))) :: zz), defers := [] } w
section
variable {Q : Exit → Act → World → Prop} {u : World} {z0 z1 z2 z3 z4 z5 z8 z9 z10 z11 z12 z13 z14 z15 z16 z17 z18 z19 z20 z21 z22 z23 z24 z25 z26 : Value} {zz : List Value} {b6 b7 : Nat} {u0 : Nat}
set_option maxRecDepth 100000 in
set_option maxHeartbeats 2000000 in
theorem mu3_0 (C : mu3C Q u z0 z1 z2 z3 z4 z5 z8 z9 z10 z11 z12 z13 z14 z15 z16 z17 z18 z19 z20 z21 z22 z23 z24 z25 z26 zz b6 b7 u0) {n8 : Nat} {n9 : Nat} {n10 : Nat} {n11 : Nat} (w : World) (hS : Kp [] u w) (gn8 : u.heap.size ≤ n8) (Bn8 : Blk w n8 (arr 4 (limb 1)) 32) (gn9 : u.heap.size ≤ n9) (Bn9 : Blk w n9 (arr 4 (limb 0)) 32) (gn10 : u.heap.size ≤ n10) (Bn10 : Blk w n10 (arr 4 (limb u0)) 32) (gn11 : u.heap.size ≤ n11) (Bn11 : Blk w n11 (arr 4 (limb 1)) 32) (en8n9 : n8 ≠ n9) (en8n10 : n8 ≠ n10) (en8n11 : n8 ≠ n11) (en9n10 : n9 ≠ n10) (en9n11 : n9 ≠ n11) (en10n11 : n10 ≠ n11) :
    wpAnyH Try.prog .any mu3Ops Q (Kp [] u) 0 (List.toArray (true :: true :: true :: true :: true :: true :: true :: true :: true :: true :: true :: true :: [])) { tmps := List.toArray (z0 :: z1 :: z2 :: z3 :: z4 :: z5 :: (.pointer (some ⟨b6, 0, none⟩)) :: (.pointer (some ⟨b7, 0, none⟩)) :: (.pointer (some ⟨n8, 0, none⟩)) :: (.pointer (some ⟨n9, 0, none⟩)) :: (.pointer (some ⟨n10, 0, none⟩)) :: (.pointer (some ⟨n11, 0, none⟩)) :: z12 :: z13 :: z14 :: z15 :: z16 :: z17 :: z18 :: z19 :: z20 :: z21 :: z22 :: (.agg (arr 4 (limb 1))) :: (.agg (arr 4 (limb 0))) :: (.agg (arr 4 (limb u0))) :: (.agg (arr 4 (limb 1))) :: zz), defers := [] } w := by
  exact wpAnyH_done (by kernel_rfl) (C.H n8 n9 n10 n11 w hS gn8 Bn8 gn9 Bn9 gn10 Bn10 gn11 Bn11 en8n9 en8n10 en8n11 en9n10 en9n11 en10n11) _
set_option maxRecDepth 100000 in
set_option maxHeartbeats 2000000 in
theorem mu3_1 (C : mu3C Q u z0 z1 z2 z3 z4 z5 z8 z9 z10 z11 z12 z13 z14 z15 z16 z17 z18 z19 z20 z21 z22 z23 z24 z25 z26 zz b6 b7 u0) {n8 : Nat} {n9 : Nat} {n10 : Nat} {n11 : Nat} (w : World) (hS : Kp [] u w) (gn8 : u.heap.size ≤ n8) (Bn8 : Blk w n8 (arr 4 (limb 1)) 32) (gn9 : u.heap.size ≤ n9) (Bn9 : Blk w n9 (arr 4 (limb 0)) 32) (gn10 : u.heap.size ≤ n10) (Bn10 : Blk w n10 (arr 4 (limb u0)) 32) (gn11 : u.heap.size ≤ n11) (Bn11 : Blk w n11 (arr 4 (fun _ => 0)) 32) (en8n9 : n8 ≠ n9) (en8n10 : n8 ≠ n10) (en8n11 : n8 ≠ n11) (en9n10 : n9 ≠ n10) (en9n11 : n9 ≠ n11) (en10n11 : n10 ≠ n11) :
    wpAnyH Try.prog .any mu3Ops Q (Kp [] u) 1 (List.toArray (true :: true :: true :: true :: true :: true :: true :: true :: true :: true :: true :: false :: [])) { tmps := List.toArray (z0 :: z1 :: z2 :: z3 :: z4 :: z5 :: (.pointer (some ⟨b6, 0, none⟩)) :: (.pointer (some ⟨b7, 0, none⟩)) :: (.pointer (some ⟨n8, 0, none⟩)) :: (.pointer (some ⟨n9, 0, none⟩)) :: (.pointer (some ⟨n10, 0, none⟩)) :: (.pointer (some ⟨n11, 0, none⟩)) :: z12 :: z13 :: z14 :: z15 :: z16 :: z17 :: z18 :: z19 :: z20 :: z21 :: z22 :: (.agg (arr 4 (limb 1))) :: (.agg (arr 4 (limb 0))) :: (.agg (arr 4 (limb u0))) :: (.agg (arr 4 (limb 1))) :: zz), defers := [] } w := by
  obtain ⟨hQ, hb6, nb6, hb7, nb7, _⟩ := id C
  refine wpAnyH_ready (rs := [11]) (by kernel_rfl) (by simp) ?_
  refine AllReadyH.cons (o := mu3Op11) rfl (fun K hK => ?_) AllReadyH.nil
  rw [if_pos (by rfl)]
  refine wp_store_row 32 _ _ rfl n11 (arr 4 (limb 1)) (by kernel_rfl) (by kernel_rfl) 32 _ Bn11 (size_fe _) (by rw [arr_size, arr_size]) (one_fe _) ?_
  have hS' := hS.new gn11 (arr 4 (limb 1))
  refine hK.out _ _ hS' (fun _ => ?_)
  exact wpAnyH_at (by kernel_rfl) (by kernel_rfl) (mu3_0 C (w.setRow n11 (arr 4 (limb 1))) hS' gn8 (Bn8.rowOther (arr 4 (limb 1)) (Ne.symm en8n11)) gn9 (Bn9.rowOther (arr 4 (limb 1)) (Ne.symm en9n11)) gn10 (Bn10.rowOther (arr 4 (limb 1)) (Ne.symm en10n11)) gn11 (Bn11.row (arr 4 (limb 1))) en8n9 en8n10 en8n11 en9n10 en9n11 en10n11)
set_option maxRecDepth 100000 in
set_option maxHeartbeats 2000000 in
theorem mu3_2 (C : mu3C Q u z0 z1 z2 z3 z4 z5 z8 z9 z10 z11 z12 z13 z14 z15 z16 z17 z18 z19 z20 z21 z22 z23 z24 z25 z26 zz b6 b7 u0) {n8 : Nat} {n9 : Nat} {n10 : Nat} {n11 : Nat} (w : World) (hS : Kp [] u w) (gn8 : u.heap.size ≤ n8) (Bn8 : Blk w n8 (arr 4 (limb 1)) 32) (gn9 : u.heap.size ≤ n9) (Bn9 : Blk w n9 (arr 4 (limb 0)) 32) (gn10 : u.heap.size ≤ n10) (Bn10 : Blk w n10 (arr 4 (fun _ => 0)) 32) (gn11 : u.heap.size ≤ n11) (Bn11 : Blk w n11 (arr 4 (fun _ => 0)) 32) (en8n9 : n8 ≠ n9) (en8n10 : n8 ≠ n10) (en8n11 : n8 ≠ n11) (en9n10 : n9 ≠ n10) (en9n11 : n9 ≠ n11) (en10n11 : n10 ≠ n11) :
    wpAnyH Try.prog .any mu3Ops Q (Kp [] u) 2 (List.toArray (true :: true :: true :: true :: true :: true :: true :: true :: true :: true :: false :: false :: [])) { tmps := List.toArray (z0 :: z1 :: z2 :: z3 :: z4 :: z5 :: (.pointer (some ⟨b6, 0, none⟩)) :: (.pointer (some ⟨b7, 0, none⟩)) :: (.pointer (some ⟨n8, 0, none⟩)) :: (.pointer (some ⟨n9, 0, none⟩)) :: (.pointer (some ⟨n10, 0, none⟩)) :: (.pointer (some ⟨n11, 0, none⟩)) :: z12 :: z13 :: z14 :: z15 :: z16 :: z17 :: z18 :: z19 :: z20 :: z21 :: z22 :: (.agg (arr 4 (limb 1))) :: (.agg (arr 4 (limb 0))) :: (.agg (arr 4 (limb u0))) :: (.agg (arr 4 (limb 1))) :: zz), defers := [] } w := by
  obtain ⟨hQ, hb6, nb6, hb7, nb7, _⟩ := id C
  refine wpAnyH_ready (rs := [10]) (by kernel_rfl) (by simp) ?_
  refine AllReadyH.cons (o := mu3Op10) rfl (fun K hK => ?_) AllReadyH.nil
  rw [if_pos (by rfl)]
  refine wp_store_row 32 _ _ rfl n10 (arr 4 (limb u0)) (by kernel_rfl) (by kernel_rfl) 32 _ Bn10 (size_fe _) (by rw [arr_size, arr_size]) (one_fe _) ?_
  have hS' := hS.new gn10 (arr 4 (limb u0))
  refine hK.out _ _ hS' (fun _ => ?_)
  exact wpAnyH_at (by kernel_rfl) (by kernel_rfl) (mu3_1 C (w.setRow n10 (arr 4 (limb u0))) hS' gn8 (Bn8.rowOther (arr 4 (limb u0)) (Ne.symm en8n10)) gn9 (Bn9.rowOther (arr 4 (limb u0)) (Ne.symm en9n10)) gn10 (Bn10.row (arr 4 (limb u0))) gn11 (Bn11.rowOther (arr 4 (limb u0)) en10n11) en8n9 en8n10 en8n11 en9n10 en9n11 en10n11)
set_option maxRecDepth 100000 in
set_option maxHeartbeats 2000000 in
theorem mu3_3 (C : mu3C Q u z0 z1 z2 z3 z4 z5 z8 z9 z10 z11 z12 z13 z14 z15 z16 z17 z18 z19 z20 z21 z22 z23 z24 z25 z26 zz b6 b7 u0) {n8 : Nat} {n9 : Nat} {n10 : Nat} {n11 : Nat} (w : World) (hS : Kp [] u w) (gn8 : u.heap.size ≤ n8) (Bn8 : Blk w n8 (arr 4 (limb 1)) 32) (gn9 : u.heap.size ≤ n9) (Bn9 : Blk w n9 (arr 4 (fun _ => 0)) 32) (gn10 : u.heap.size ≤ n10) (Bn10 : Blk w n10 (arr 4 (fun _ => 0)) 32) (gn11 : u.heap.size ≤ n11) (Bn11 : Blk w n11 (arr 4 (fun _ => 0)) 32) (en8n9 : n8 ≠ n9) (en8n10 : n8 ≠ n10) (en8n11 : n8 ≠ n11) (en9n10 : n9 ≠ n10) (en9n11 : n9 ≠ n11) (en10n11 : n10 ≠ n11) :
    wpAnyH Try.prog .any mu3Ops Q (Kp [] u) 3 (List.toArray (true :: true :: true :: true :: true :: true :: true :: true :: true :: false :: false :: false :: [])) { tmps := List.toArray (z0 :: z1 :: z2 :: z3 :: z4 :: z5 :: (.pointer (some ⟨b6, 0, none⟩)) :: (.pointer (some ⟨b7, 0, none⟩)) :: (.pointer (some ⟨n8, 0, none⟩)) :: (.pointer (some ⟨n9, 0, none⟩)) :: (.pointer (some ⟨n10, 0, none⟩)) :: (.pointer (some ⟨n11, 0, none⟩)) :: z12 :: z13 :: z14 :: z15 :: z16 :: z17 :: z18 :: z19 :: z20 :: z21 :: z22 :: (.agg (arr 4 (limb 1))) :: (.agg (arr 4 (limb 0))) :: (.agg (arr 4 (limb u0))) :: (.agg (arr 4 (limb 1))) :: zz), defers := [] } w := by
  obtain ⟨hQ, hb6, nb6, hb7, nb7, _⟩ := id C
  refine wpAnyH_ready (rs := [9]) (by kernel_rfl) (by simp) ?_
  refine AllReadyH.cons (o := mu3Op9) rfl (fun K hK => ?_) AllReadyH.nil
  rw [if_pos (by rfl)]
  refine wp_store_row 32 _ _ rfl n9 (arr 4 (limb 0)) (by kernel_rfl) (by kernel_rfl) 32 _ Bn9 (size_fe _) (by rw [arr_size, arr_size]) (one_fe _) ?_
  have hS' := hS.new gn9 (arr 4 (limb 0))
  refine hK.out _ _ hS' (fun _ => ?_)
  exact wpAnyH_at (by kernel_rfl) (by kernel_rfl) (mu3_2 C (w.setRow n9 (arr 4 (limb 0))) hS' gn8 (Bn8.rowOther (arr 4 (limb 0)) (Ne.symm en8n9)) gn9 (Bn9.row (arr 4 (limb 0))) gn10 (Bn10.rowOther (arr 4 (limb 0)) en9n10) gn11 (Bn11.rowOther (arr 4 (limb 0)) en9n11) en8n9 en8n10 en8n11 en9n10 en9n11 en10n11)
set_option maxRecDepth 100000 in
set_option maxHeartbeats 2000000 in
theorem mu3_4 (C : mu3C Q u z0 z1 z2 z3 z4 z5 z8 z9 z10 z11 z12 z13 z14 z15 z16 z17 z18 z19 z20 z21 z22 z23 z24 z25 z26 zz b6 b7 u0) {n8 : Nat} {n9 : Nat} {n10 : Nat} {n11 : Nat} (w : World) (hS : Kp [] u w) (gn8 : u.heap.size ≤ n8) (Bn8 : Blk w n8 (arr 4 (fun _ => 0)) 32) (gn9 : u.heap.size ≤ n9) (Bn9 : Blk w n9 (arr 4 (fun _ => 0)) 32) (gn10 : u.heap.size ≤ n10) (Bn10 : Blk w n10 (arr 4 (fun _ => 0)) 32) (gn11 : u.heap.size ≤ n11) (Bn11 : Blk w n11 (arr 4 (fun _ => 0)) 32) (en8n9 : n8 ≠ n9) (en8n10 : n8 ≠ n10) (en8n11 : n8 ≠ n11) (en9n10 : n9 ≠ n10) (en9n11 : n9 ≠ n11) (en10n11 : n10 ≠ n11) :
    wpAnyH Try.prog .any mu3Ops Q (Kp [] u) 4 (List.toArray (true :: true :: true :: true :: true :: true :: true :: true :: false :: false :: false :: false :: [])) { tmps := List.toArray (z0 :: z1 :: z2 :: z3 :: z4 :: z5 :: (.pointer (some ⟨b6, 0, none⟩)) :: (.pointer (some ⟨b7, 0, none⟩)) :: (.pointer (some ⟨n8, 0, none⟩)) :: (.pointer (some ⟨n9, 0, none⟩)) :: (.pointer (some ⟨n10, 0, none⟩)) :: (.pointer (some ⟨n11, 0, none⟩)) :: z12 :: z13 :: z14 :: z15 :: z16 :: z17 :: z18 :: z19 :: z20 :: z21 :: z22 :: (.agg (arr 4 (limb 1))) :: (.agg (arr 4 (limb 0))) :: (.agg (arr 4 (limb u0))) :: (.agg (arr 4 (limb 1))) :: zz), defers := [] } w := by
  obtain ⟨hQ, hb6, nb6, hb7, nb7, _⟩ := id C
  refine wpAnyH_ready (rs := [8]) (by kernel_rfl) (by simp) ?_
  refine AllReadyH.cons (o := mu3Op8) rfl (fun K hK => ?_) AllReadyH.nil
  rw [if_pos (by rfl)]
  refine wp_store_row 32 _ _ rfl n8 (arr 4 (limb 1)) (by kernel_rfl) (by kernel_rfl) 32 _ Bn8 (size_fe _) (by rw [arr_size, arr_size]) (one_fe _) ?_
  have hS' := hS.new gn8 (arr 4 (limb 1))
  refine hK.out _ _ hS' (fun _ => ?_)
  exact wpAnyH_at (by kernel_rfl) (by kernel_rfl) (mu3_3 C (w.setRow n8 (arr 4 (limb 1))) hS' gn8 (Bn8.row (arr 4 (limb 1))) gn9 (Bn9.rowOther (arr 4 (limb 1)) en8n9) gn10 (Bn10.rowOther (arr 4 (limb 1)) en8n10) gn11 (Bn11.rowOther (arr 4 (limb 1)) en8n11) en8n9 en8n10 en8n11 en9n10 en9n11 en10n11)
set_option maxRecDepth 100000 in
set_option maxHeartbeats 2000000 in
theorem mu3_5 (C : mu3C Q u z0 z1 z2 z3 z4 z5 z8 z9 z10 z11 z12 z13 z14 z15 z16 z17 z18 z19 z20 z21 z22 z23 z24 z25 z26 zz b6 b7 u0) {n9 : Nat} {n10 : Nat} {n11 : Nat} (w : World) (hS : Kp [] u w) (gn9 : u.heap.size ≤ n9) (Bn9 : Blk w n9 (arr 4 (fun _ => 0)) 32) (gn10 : u.heap.size ≤ n10) (Bn10 : Blk w n10 (arr 4 (fun _ => 0)) 32) (gn11 : u.heap.size ≤ n11) (Bn11 : Blk w n11 (arr 4 (fun _ => 0)) 32) (en9n10 : n9 ≠ n10) (en9n11 : n9 ≠ n11) (en10n11 : n10 ≠ n11) :
    wpAnyH Try.prog .any mu3Ops Q (Kp [] u) 5 (List.toArray (true :: true :: true :: true :: false :: true :: true :: true :: false :: false :: false :: false :: [])) { tmps := List.toArray (z0 :: z1 :: z2 :: z3 :: z4 :: z5 :: (.pointer (some ⟨b6, 0, none⟩)) :: (.pointer (some ⟨b7, 0, none⟩)) :: z8 :: (.pointer (some ⟨n9, 0, none⟩)) :: (.pointer (some ⟨n10, 0, none⟩)) :: (.pointer (some ⟨n11, 0, none⟩)) :: z12 :: z13 :: z14 :: z15 :: z16 :: z17 :: z18 :: z19 :: z20 :: z21 :: z22 :: (.agg (arr 4 (limb 1))) :: (.agg (arr 4 (limb 0))) :: (.agg (arr 4 (limb u0))) :: (.agg (arr 4 (limb 1))) :: zz), defers := [] } w := by
  obtain ⟨hQ, hb6, nb6, hb7, nb7, _⟩ := id C
  refine wpAnyH_ready (rs := [4]) (by kernel_rfl) (by simp) ?_
  refine AllReadyH.cons (o := mu3Op4) rfl (fun K hK => ?_) AllReadyH.nil
  rw [if_pos (by rfl)]
  refine wp_new _ 32 (alloc_fe _ _ _ rfl) ?_
  intro n8 w' eb Bn8 hbw
  have hS' := hS.call hbw
  refine hK.out _ _ hS' (fun _ => ?_)
  exact wpAnyH_at (by kernel_rfl) (by kernel_rfl) (mu3_4 C w' hS' (by rw [eb]; exact hS.size) Bn8 gn9 (Bn9.call hbw) gn10 (Bn10.call hbw) gn11 (Bn11.call hbw) (by rw [eb]; exact Nat.ne_of_gt Bn9.lt) (by rw [eb]; exact Nat.ne_of_gt Bn10.lt) (by rw [eb]; exact Nat.ne_of_gt Bn11.lt) en9n10 en9n11 en10n11)
set_option maxRecDepth 100000 in
set_option maxHeartbeats 2000000 in
theorem mu3_6 (C : mu3C Q u z0 z1 z2 z3 z4 z5 z8 z9 z10 z11 z12 z13 z14 z15 z16 z17 z18 z19 z20 z21 z22 z23 z24 z25 z26 zz b6 b7 u0) {n8 : Nat} {n10 : Nat} {n11 : Nat} (w : World) (hS : Kp [] u w) (gn8 : u.heap.size ≤ n8) (Bn8 : Blk w n8 (arr 4 (fun _ => 0)) 32) (gn10 : u.heap.size ≤ n10) (Bn10 : Blk w n10 (arr 4 (fun _ => 0)) 32) (gn11 : u.heap.size ≤ n11) (Bn11 : Blk w n11 (arr 4 (fun _ => 0)) 32) (en8n10 : n8 ≠ n10) (en8n11 : n8 ≠ n11) (en10n11 : n10 ≠ n11) :
    wpAnyH Try.prog .any mu3Ops Q (Kp [] u) 5 (List.toArray (true :: true :: true :: true :: true :: false :: true :: true :: false :: false :: false :: false :: [])) { tmps := List.toArray (z0 :: z1 :: z2 :: z3 :: z4 :: z5 :: (.pointer (some ⟨b6, 0, none⟩)) :: (.pointer (some ⟨b7, 0, none⟩)) :: (.pointer (some ⟨n8, 0, none⟩)) :: z9 :: (.pointer (some ⟨n10, 0, none⟩)) :: (.pointer (some ⟨n11, 0, none⟩)) :: z12 :: z13 :: z14 :: z15 :: z16 :: z17 :: z18 :: z19 :: z20 :: z21 :: z22 :: (.agg (arr 4 (limb 1))) :: (.agg (arr 4 (limb 0))) :: (.agg (arr 4 (limb u0))) :: (.agg (arr 4 (limb 1))) :: zz), defers := [] } w := by
  obtain ⟨hQ, hb6, nb6, hb7, nb7, _⟩ := id C
  refine wpAnyH_ready (rs := [5]) (by kernel_rfl) (by simp) ?_
  refine AllReadyH.cons (o := mu3Op5) rfl (fun K hK => ?_) AllReadyH.nil
  rw [if_pos (by rfl)]
  refine wp_new _ 32 (alloc_fe _ _ _ rfl) ?_
  intro n9 w' eb Bn9 hbw
  have hS' := hS.call hbw
  refine hK.out _ _ hS' (fun _ => ?_)
  exact wpAnyH_at (by kernel_rfl) (by kernel_rfl) (mu3_4 C w' hS' gn8 (Bn8.call hbw) (by rw [eb]; exact hS.size) Bn9 gn10 (Bn10.call hbw) gn11 (Bn11.call hbw) (by rw [eb]; exact Nat.ne_of_lt Bn8.lt) en8n10 en8n11 (by rw [eb]; exact Nat.ne_of_gt Bn10.lt) (by rw [eb]; exact Nat.ne_of_gt Bn11.lt) en10n11)
set_option maxRecDepth 100000 in
set_option maxHeartbeats 2000000 in
theorem mu3_7 (C : mu3C Q u z0 z1 z2 z3 z4 z5 z8 z9 z10 z11 z12 z13 z14 z15 z16 z17 z18 z19 z20 z21 z22 z23 z24 z25 z26 zz b6 b7 u0) {n8 : Nat} {n9 : Nat} {n11 : Nat} (w : World) (hS : Kp [] u w) (gn8 : u.heap.size ≤ n8) (Bn8 : Blk w n8 (arr 4 (fun _ => 0)) 32) (gn9 : u.heap.size ≤ n9) (Bn9 : Blk w n9 (arr 4 (fun _ => 0)) 32) (gn11 : u.heap.size ≤ n11) (Bn11 : Blk w n11 (arr 4 (fun _ => 0)) 32) (en8n9 : n8 ≠ n9) (en8n11 : n8 ≠ n11) (en9n11 : n9 ≠ n11) :
    wpAnyH Try.prog .any mu3Ops Q (Kp [] u) 5 (List.toArray (true :: true :: true :: true :: true :: true :: false :: true :: false :: false :: false :: false :: [])) { tmps := List.toArray (z0 :: z1 :: z2 :: z3 :: z4 :: z5 :: (.pointer (some ⟨b6, 0, none⟩)) :: (.pointer (some ⟨b7, 0, none⟩)) :: (.pointer (some ⟨n8, 0, none⟩)) :: (.pointer (some ⟨n9, 0, none⟩)) :: z10 :: (.pointer (some ⟨n11, 0, none⟩)) :: z12 :: z13 :: z14 :: z15 :: z16 :: z17 :: z18 :: z19 :: z20 :: z21 :: z22 :: (.agg (arr 4 (limb 1))) :: (.agg (arr 4 (limb 0))) :: (.agg (arr 4 (limb u0))) :: (.agg (arr 4 (limb 1))) :: zz), defers := [] } w := by
  obtain ⟨hQ, hb6, nb6, hb7, nb7, _⟩ := id C
  refine wpAnyH_ready (rs := [6]) (by kernel_rfl) (by simp) ?_
  refine AllReadyH.cons (o := mu3Op6) rfl (fun K hK => ?_) AllReadyH.nil
  rw [if_pos (by rfl)]
  refine wp_new _ 32 (alloc_fe _ _ _ rfl) ?_
  intro n10 w' eb Bn10 hbw
  have hS' := hS.call hbw
  refine hK.out _ _ hS' (fun _ => ?_)
  exact wpAnyH_at (by kernel_rfl) (by kernel_rfl) (mu3_4 C w' hS' gn8 (Bn8.call hbw) gn9 (Bn9.call hbw) (by rw [eb]; exact hS.size) Bn10 gn11 (Bn11.call hbw) en8n9 (by rw [eb]; exact Nat.ne_of_lt Bn8.lt) en8n11 (by rw [eb]; exact Nat.ne_of_lt Bn9.lt) en9n11 (by rw [eb]; exact Nat.ne_of_gt Bn11.lt))
set_option maxRecDepth 100000 in
set_option maxHeartbeats 2000000 in
theorem mu3_8 (C : mu3C Q u z0 z1 z2 z3 z4 z5 z8 z9 z10 z11 z12 z13 z14 z15 z16 z17 z18 z19 z20 z21 z22 z23 z24 z25 z26 zz b6 b7 u0) {n8 : Nat} {n9 : Nat} {n10 : Nat} (w : World) (hS : Kp [] u w) (gn8 : u.heap.size ≤ n8) (Bn8 : Blk w n8 (arr 4 (fun _ => 0)) 32) (gn9 : u.heap.size ≤ n9) (Bn9 : Blk w n9 (arr 4 (fun _ => 0)) 32) (gn10 : u.heap.size ≤ n10) (Bn10 : Blk w n10 (arr 4 (fun _ => 0)) 32) (en8n9 : n8 ≠ n9) (en8n10 : n8 ≠ n10) (en9n10 : n9 ≠ n10) :
    wpAnyH Try.prog .any mu3Ops Q (Kp [] u) 5 (List.toArray (true :: true :: true :: true :: true :: true :: true :: false :: false :: false :: false :: false :: [])) { tmps := List.toArray (z0 :: z1 :: z2 :: z3 :: z4 :: z5 :: (.pointer (some ⟨b6, 0, none⟩)) :: (.pointer (some ⟨b7, 0, none⟩)) :: (.pointer (some ⟨n8, 0, none⟩)) :: (.pointer (some ⟨n9, 0, none⟩)) :: (.pointer (some ⟨n10, 0, none⟩)) :: z11 :: z12 :: z13 :: z14 :: z15 :: z16 :: z17 :: z18 :: z19 :: z20 :: z21 :: z22 :: (.agg (arr 4 (limb 1))) :: (.agg (arr 4 (limb 0))) :: (.agg (arr 4 (limb u0))) :: (.agg (arr 4 (limb 1))) :: zz), defers := [] } w := by
  obtain ⟨hQ, hb6, nb6, hb7, nb7, _⟩ := id C
  refine wpAnyH_ready (rs := [7]) (by kernel_rfl) (by simp) ?_
  refine AllReadyH.cons (o := mu3Op7) rfl (fun K hK => ?_) AllReadyH.nil
  rw [if_pos (by rfl)]
  refine wp_new _ 32 (alloc_fe _ _ _ rfl) ?_
  intro n11 w' eb Bn11 hbw
  have hS' := hS.call hbw
  refine hK.out _ _ hS' (fun _ => ?_)
  exact wpAnyH_at (by kernel_rfl) (by kernel_rfl) (mu3_4 C w' hS' gn8 (Bn8.call hbw) gn9 (Bn9.call hbw) gn10 (Bn10.call hbw) (by rw [eb]; exact hS.size) Bn11 en8n9 en8n10 (by rw [eb]; exact Nat.ne_of_lt Bn8.lt) en9n10 (by rw [eb]; exact Nat.ne_of_lt Bn9.lt) (by rw [eb]; exact Nat.ne_of_lt Bn10.lt))
set_option maxRecDepth 100000 in
set_option maxHeartbeats 2000000 in
theorem mu3_9 (C : mu3C Q u z0 z1 z2 z3 z4 z5 z8 z9 z10 z11 z12 z13 z14 z15 z16 z17 z18 z19 z20 z21 z22 z23 z24 z25 z26 zz b6 b7 u0) {n10 : Nat} {n11 : Nat} (w : World) (hS : Kp [] u w) (gn10 : u.heap.size ≤ n10) (Bn10 : Blk w n10 (arr 4 (fun _ => 0)) 32) (gn11 : u.heap.size ≤ n11) (Bn11 : Blk w n11 (arr 4 (fun _ => 0)) 32) (en10n11 : n10 ≠ n11) :
    wpAnyH Try.prog .any mu3Ops Q (Kp [] u) 6 (List.toArray (true :: true :: true :: true :: false :: false :: true :: true :: false :: false :: false :: false :: [])) { tmps := List.toArray (z0 :: z1 :: z2 :: z3 :: z4 :: z5 :: (.pointer (some ⟨b6, 0, none⟩)) :: (.pointer (some ⟨b7, 0, none⟩)) :: z8 :: z9 :: (.pointer (some ⟨n10, 0, none⟩)) :: (.pointer (some ⟨n11, 0, none⟩)) :: z12 :: z13 :: z14 :: z15 :: z16 :: z17 :: z18 :: z19 :: z20 :: z21 :: z22 :: (.agg (arr 4 (limb 1))) :: (.agg (arr 4 (limb 0))) :: (.agg (arr 4 (limb u0))) :: (.agg (arr 4 (limb 1))) :: zz), defers := [] } w := by
  obtain ⟨hQ, hb6, nb6, hb7, nb7, _⟩ := id C
  refine wpAnyH_ready (rs := [4, 5]) (by kernel_rfl) (by simp) ?_
  refine AllReadyH.cons (o := mu3Op4) rfl (fun K hK => ?_) ?_
  · skip
    rw [if_pos (by rfl)]
    refine wp_new _ 32 (alloc_fe _ _ _ rfl) ?_
    intro n8 w' eb Bn8 hbw
    have hS' := hS.call hbw
    refine hK.out _ _ hS' (fun _ => ?_)
    exact wpAnyH_at (by kernel_rfl) (by kernel_rfl) (mu3_6 C w' hS' (by rw [eb]; exact hS.size) Bn8 gn10 (Bn10.call hbw) gn11 (Bn11.call hbw) (by rw [eb]; exact Nat.ne_of_gt Bn10.lt) (by rw [eb]; exact Nat.ne_of_gt Bn11.lt) en10n11)
  refine AllReadyH.cons (o := mu3Op5) rfl (fun K hK => ?_) AllReadyH.nil
  rw [if_pos (by rfl)]
  refine wp_new _ 32 (alloc_fe _ _ _ rfl) ?_
  intro n9 w' eb Bn9 hbw
  have hS' := hS.call hbw
  refine hK.out _ _ hS' (fun _ => ?_)
  exact wpAnyH_at (by kernel_rfl) (by kernel_rfl) (mu3_5 C w' hS' (by rw [eb]; exact hS.size) Bn9 gn10 (Bn10.call hbw) gn11 (Bn11.call hbw) (by rw [eb]; exact Nat.ne_of_gt Bn10.lt) (by rw [eb]; exact Nat.ne_of_gt Bn11.lt) en10n11)
set_option maxRecDepth 100000 in
set_option maxHeartbeats 2000000 in
theorem mu3_10 (C : mu3C Q u z0 z1 z2 z3 z4 z5 z8 z9 z10 z11 z12 z13 z14 z15 z16 z17 z18 z19 z20 z21 z22 z23 z24 z25 z26 zz b6 b7 u0) {n9 : Nat} {n11 : Nat} (w : World) (hS : Kp [] u w) (gn9 : u.heap.size ≤ n9) (Bn9 : Blk w n9 (arr 4 (fun _ => 0)) 32) (gn11 : u.heap.size ≤ n11) (Bn11 : Blk w n11 (arr 4 (fun _ => 0)) 32) (en9n11 : n9 ≠ n11) :
    wpAnyH Try.prog .any mu3Ops Q (Kp [] u) 6 (List.toArray (true :: true :: true :: true :: false :: true :: false :: true :: false :: false :: false :: false :: [])) { tmps := List.toArray (z0 :: z1 :: z2 :: z3 :: z4 :: z5 :: (.pointer (some ⟨b6, 0, none⟩)) :: (.pointer (some ⟨b7, 0, none⟩)) :: z8 :: (.pointer (some ⟨n9, 0, none⟩)) :: z10 :: (.pointer (some ⟨n11, 0, none⟩)) :: z12 :: z13 :: z14 :: z15 :: z16 :: z17 :: z18 :: z19 :: z20 :: z21 :: z22 :: (.agg (arr 4 (limb 1))) :: (.agg (arr 4 (limb 0))) :: (.agg (arr 4 (limb u0))) :: (.agg (arr 4 (limb 1))) :: zz), defers := [] } w := by
  obtain ⟨hQ, hb6, nb6, hb7, nb7, _⟩ := id C
  refine wpAnyH_ready (rs := [4, 6]) (by kernel_rfl) (by simp) ?_
  refine AllReadyH.cons (o := mu3Op4) rfl (fun K hK => ?_) ?_
  · skip
    rw [if_pos (by rfl)]
    refine wp_new _ 32 (alloc_fe _ _ _ rfl) ?_
    intro n8 w' eb Bn8 hbw
    have hS' := hS.call hbw
    refine hK.out _ _ hS' (fun _ => ?_)
    exact wpAnyH_at (by kernel_rfl) (by kernel_rfl) (mu3_7 C w' hS' (by rw [eb]; exact hS.size) Bn8 gn9 (Bn9.call hbw) gn11 (Bn11.call hbw) (by rw [eb]; exact Nat.ne_of_gt Bn9.lt) (by rw [eb]; exact Nat.ne_of_gt Bn11.lt) en9n11)
  refine AllReadyH.cons (o := mu3Op6) rfl (fun K hK => ?_) AllReadyH.nil
  rw [if_pos (by rfl)]
  refine wp_new _ 32 (alloc_fe _ _ _ rfl) ?_
  intro n10 w' eb Bn10 hbw
  have hS' := hS.call hbw
  refine hK.out _ _ hS' (fun _ => ?_)
  exact wpAnyH_at (by kernel_rfl) (by kernel_rfl) (mu3_5 C w' hS' gn9 (Bn9.call hbw) (by rw [eb]; exact hS.size) Bn10 gn11 (Bn11.call hbw) (by rw [eb]; exact Nat.ne_of_lt Bn9.lt) en9n11 (by rw [eb]; exact Nat.ne_of_gt Bn11.lt))
set_option maxRecDepth 100000 in
set_option maxHeartbeats 2000000 in
theorem mu3_11 (C : mu3C Q u z0 z1 z2 z3 z4 z5 z8 z9 z10 z11 z12 z13 z14 z15 z16 z17 z18 z19 z20 z21 z22 z23 z24 z25 z26 zz b6 b7 u0) {n8 : Nat} {n11 : Nat} (w : World) (hS : Kp [] u w) (gn8 : u.heap.size ≤ n8) (Bn8 : Blk w n8 (arr 4 (fun _ => 0)) 32) (gn11 : u.heap.size ≤ n11) (Bn11 : Blk w n11 (arr 4 (fun _ => 0)) 32) (en8n11 : n8 ≠ n11) :
    wpAnyH Try.prog .any mu3Ops Q (Kp [] u) 6 (List.toArray (true :: true :: true :: true :: true :: false :: false :: true :: false :: false :: false :: false :: [])) { tmps := List.toArray (z0 :: z1 :: z2 :: z3 :: z4 :: z5 :: (.pointer (some ⟨b6, 0, none⟩)) :: (.pointer (some ⟨b7, 0, none⟩)) :: (.pointer (some ⟨n8, 0, none⟩)) :: z9 :: z10 :: (.pointer (some ⟨n11, 0, none⟩)) :: z12 :: z13 :: z14 :: z15 :: z16 :: z17 :: z18 :: z19 :: z20 :: z21 :: z22 :: (.agg (arr 4 (limb 1))) :: (.agg (arr 4 (limb 0))) :: (.agg (arr 4 (limb u0))) :: (.agg (arr 4 (limb 1))) :: zz), defers := [] } w := by
  obtain ⟨hQ, hb6, nb6, hb7, nb7, _⟩ := id C
  refine wpAnyH_ready (rs := [5, 6]) (by kernel_rfl) (by simp) ?_
  refine AllReadyH.cons (o := mu3Op5) rfl (fun K hK => ?_) ?_
  · skip
    rw [if_pos (by rfl)]
    refine wp_new _ 32 (alloc_fe _ _ _ rfl) ?_
    intro n9 w' eb Bn9 hbw
    have hS' := hS.call hbw
    refine hK.out _ _ hS' (fun _ => ?_)
    exact wpAnyH_at (by kernel_rfl) (by kernel_rfl) (mu3_7 C w' hS' gn8 (Bn8.call hbw) (by rw [eb]; exact hS.size) Bn9 gn11 (Bn11.call hbw) (by rw [eb]; exact Nat.ne_of_lt Bn8.lt) en8n11 (by rw [eb]; exact Nat.ne_of_gt Bn11.lt))
  refine AllReadyH.cons (o := mu3Op6) rfl (fun K hK => ?_) AllReadyH.nil
  rw [if_pos (by rfl)]
  refine wp_new _ 32 (alloc_fe _ _ _ rfl) ?_
  intro n10 w' eb Bn10 hbw
  have hS' := hS.call hbw
  refine hK.out _ _ hS' (fun _ => ?_)
  exact wpAnyH_at (by kernel_rfl) (by kernel_rfl) (mu3_6 C w' hS' gn8 (Bn8.call hbw) (by rw [eb]; exact hS.size) Bn10 gn11 (Bn11.call hbw) (by rw [eb]; exact Nat.ne_of_lt Bn8.lt) en8n11 (by rw [eb]; exact Nat.ne_of_gt Bn11.lt))
set_option maxRecDepth 100000 in
set_option maxHeartbeats 2000000 in
theorem mu3_12 (C : mu3C Q u z0 z1 z2 z3 z4 z5 z8 z9 z10 z11 z12 z13 z14 z15 z16 z17 z18 z19 z20 z21 z22 z23 z24 z25 z26 zz b6 b7 u0) {n9 : Nat} {n10 : Nat} (w : World) (hS : Kp [] u w) (gn9 : u.heap.size ≤ n9) (Bn9 : Blk w n9 (arr 4 (fun _ => 0)) 32) (gn10 : u.heap.size ≤ n10) (Bn10 : Blk w n10 (arr 4 (fun _ => 0)) 32) (en9n10 : n9 ≠ n10) :
    wpAnyH Try.prog .any mu3Ops Q (Kp [] u) 6 (List.toArray (true :: true :: true :: true :: false :: true :: true :: false :: false :: false :: false :: false :: [])) { tmps := List.toArray (z0 :: z1 :: z2 :: z3 :: z4 :: z5 :: (.pointer (some ⟨b6, 0, none⟩)) :: (.pointer (some ⟨b7, 0, none⟩)) :: z8 :: (.pointer (some ⟨n9, 0, none⟩)) :: (.pointer (some ⟨n10, 0, none⟩)) :: z11 :: z12 :: z13 :: z14 :: z15 :: z16 :: z17 :: z18 :: z19 :: z20 :: z21 :: z22 :: (.agg (arr 4 (limb 1))) :: (.agg (arr 4 (limb 0))) :: (.agg (arr 4 (limb u0))) :: (.agg (arr 4 (limb 1))) :: zz), defers := [] } w := by
  obtain ⟨hQ, hb6, nb6, hb7, nb7, _⟩ := id C
  refine wpAnyH_ready (rs := [4, 7]) (by kernel_rfl) (by simp) ?_
  refine AllReadyH.cons (o := mu3Op4) rfl (fun K hK => ?_) ?_
  · skip
    rw [if_pos (by rfl)]
    refine wp_new _ 32 (alloc_fe _ _ _ rfl) ?_
    intro n8 w' eb Bn8 hbw
    have hS' := hS.call hbw
    refine hK.out _ _ hS' (fun _ => ?_)
    exact wpAnyH_at (by kernel_rfl) (by kernel_rfl) (mu3_8 C w' hS' (by rw [eb]; exact hS.size) Bn8 gn9 (Bn9.call hbw) gn10 (Bn10.call hbw) (by rw [eb]; exact Nat.ne_of_gt Bn9.lt) (by rw [eb]; exact Nat.ne_of_gt Bn10.lt) en9n10)
  refine AllReadyH.cons (o := mu3Op7) rfl (fun K hK => ?_) AllReadyH.nil
  rw [if_pos (by rfl)]
  refine wp_new _ 32 (alloc_fe _ _ _ rfl) ?_
  intro n11 w' eb Bn11 hbw
  have hS' := hS.call hbw
  refine hK.out _ _ hS' (fun _ => ?_)
  exact wpAnyH_at (by kernel_rfl) (by kernel_rfl) (mu3_5 C w' hS' gn9 (Bn9.call hbw) gn10 (Bn10.call hbw) (by rw [eb]; exact hS.size) Bn11 en9n10 (by rw [eb]; exact Nat.ne_of_lt Bn9.lt) (by rw [eb]; exact Nat.ne_of_lt Bn10.lt))
set_option maxRecDepth 100000 in
set_option maxHeartbeats 2000000 in
theorem mu3_13 (C : mu3C Q u z0 z1 z2 z3 z4 z5 z8 z9 z10 z11 z12 z13 z14 z15 z16 z17 z18 z19 z20 z21 z22 z23 z24 z25 z26 zz b6 b7 u0) {n8 : Nat} {n10 : Nat} (w : World) (hS : Kp [] u w) (gn8 : u.heap.size ≤ n8) (Bn8 : Blk w n8 (arr 4 (fun _ => 0)) 32) (gn10 : u.heap.size ≤ n10) (Bn10 : Blk w n10 (arr 4 (fun _ => 0)) 32) (en8n10 : n8 ≠ n10) :
    wpAnyH Try.prog .any mu3Ops Q (Kp [] u) 6 (List.toArray (true :: true :: true :: true :: true :: false :: true :: false :: false :: false :: false :: false :: [])) { tmps := List.toArray (z0 :: z1 :: z2 :: z3 :: z4 :: z5 :: (.pointer (some ⟨b6, 0, none⟩)) :: (.pointer (some ⟨b7, 0, none⟩)) :: (.pointer (some ⟨n8, 0, none⟩)) :: z9 :: (.pointer (some ⟨n10, 0, none⟩)) :: z11 :: z12 :: z13 :: z14 :: z15 :: z16 :: z17 :: z18 :: z19 :: z20 :: z21 :: z22 :: (.agg (arr 4 (limb 1))) :: (.agg (arr 4 (limb 0))) :: (.agg (arr 4 (limb u0))) :: (.agg (arr 4 (limb 1))) :: zz), defers := [] } w := by
  obtain ⟨hQ, hb6, nb6, hb7, nb7, _⟩ := id C
  refine wpAnyH_ready (rs := [5, 7]) (by kernel_rfl) (by simp) ?_
  refine AllReadyH.cons (o := mu3Op5) rfl (fun K hK => ?_) ?_
  · skip
    rw [if_pos (by rfl)]
    refine wp_new _ 32 (alloc_fe _ _ _ rfl) ?_
    intro n9 w' eb Bn9 hbw
    have hS' := hS.call hbw
    refine hK.out _ _ hS' (fun _ => ?_)
    exact wpAnyH_at (by kernel_rfl) (by kernel_rfl) (mu3_8 C w' hS' gn8 (Bn8.call hbw) (by rw [eb]; exact hS.size) Bn9 gn10 (Bn10.call hbw) (by rw [eb]; exact Nat.ne_of_lt Bn8.lt) en8n10 (by rw [eb]; exact Nat.ne_of_gt Bn10.lt))
  refine AllReadyH.cons (o := mu3Op7) rfl (fun K hK => ?_) AllReadyH.nil
  rw [if_pos (by rfl)]
  refine wp_new _ 32 (alloc_fe _ _ _ rfl) ?_
  intro n11 w' eb Bn11 hbw
  have hS' := hS.call hbw
  refine hK.out _ _ hS' (fun _ => ?_)
  exact wpAnyH_at (by kernel_rfl) (by kernel_rfl) (mu3_6 C w' hS' gn8 (Bn8.call hbw) gn10 (Bn10.call hbw) (by rw [eb]; exact hS.size) Bn11 en8n10 (by rw [eb]; exact Nat.ne_of_lt Bn8.lt) (by rw [eb]; exact Nat.ne_of_lt Bn10.lt))
set_option maxRecDepth 100000 in
set_option maxHeartbeats 2000000 in
theorem mu3_14 (C : mu3C Q u z0 z1 z2 z3 z4 z5 z8 z9 z10 z11 z12 z13 z14 z15 z16 z17 z18 z19 z20 z21 z22 z23 z24 z25 z26 zz b6 b7 u0) {n8 : Nat} {n9 : Nat} (w : World) (hS : Kp [] u w) (gn8 : u.heap.size ≤ n8) (Bn8 : Blk w n8 (arr 4 (fun _ => 0)) 32) (gn9 : u.heap.size ≤ n9) (Bn9 : Blk w n9 (arr 4 (fun _ => 0)) 32) (en8n9 : n8 ≠ n9) :
    wpAnyH Try.prog .any mu3Ops Q (Kp [] u) 6 (List.toArray (true :: true :: true :: true :: true :: true :: false :: false :: false :: false :: false :: false :: [])) { tmps := List.toArray (z0 :: z1 :: z2 :: z3 :: z4 :: z5 :: (.pointer (some ⟨b6, 0, none⟩)) :: (.pointer (some ⟨b7, 0, none⟩)) :: (.pointer (some ⟨n8, 0, none⟩)) :: (.pointer (some ⟨n9, 0, none⟩)) :: z10 :: z11 :: z12 :: z13 :: z14 :: z15 :: z16 :: z17 :: z18 :: z19 :: z20 :: z21 :: z22 :: (.agg (arr 4 (limb 1))) :: (.agg (arr 4 (limb 0))) :: (.agg (arr 4 (limb u0))) :: (.agg (arr 4 (limb 1))) :: zz), defers := [] } w := by
  obtain ⟨hQ, hb6, nb6, hb7, nb7, _⟩ := id C
  refine wpAnyH_ready (rs := [6, 7]) (by kernel_rfl) (by simp) ?_
  refine AllReadyH.cons (o := mu3Op6) rfl (fun K hK => ?_) ?_
  · skip
    rw [if_pos (by rfl)]
    refine wp_new _ 32 (alloc_fe _ _ _ rfl) ?_
    intro n10 w' eb Bn10 hbw
    have hS' := hS.call hbw
    refine hK.out _ _ hS' (fun _ => ?_)
    exact wpAnyH_at (by kernel_rfl) (by kernel_rfl) (mu3_8 C w' hS' gn8 (Bn8.call hbw) gn9 (Bn9.call hbw) (by rw [eb]; exact hS.size) Bn10 en8n9 (by rw [eb]; exact Nat.ne_of_lt Bn8.lt) (by rw [eb]; exact Nat.ne_of_lt Bn9.lt))
  refine AllReadyH.cons (o := mu3Op7) rfl (fun K hK => ?_) AllReadyH.nil
  rw [if_pos (by rfl)]
  refine wp_new _ 32 (alloc_fe _ _ _ rfl) ?_
  intro n11 w' eb Bn11 hbw
  have hS' := hS.call hbw
  refine hK.out _ _ hS' (fun _ => ?_)
  exact wpAnyH_at (by kernel_rfl) (by kernel_rfl) (mu3_7 C w' hS' gn8 (Bn8.call hbw) gn9 (Bn9.call hbw) (by rw [eb]; exact hS.size) Bn11 en8n9 (by rw [eb]; exact Nat.ne_of_lt Bn8.lt) (by rw [eb]; exact Nat.ne_of_lt Bn9.lt))
set_option maxRecDepth 100000 in
set_option maxHeartbeats 2000000 in
theorem mu3_15 (C : mu3C Q u z0 z1 z2 z3 z4 z5 z8 z9 z10 z11 z12 z13 z14 z15 z16 z17 z18 z19 z20 z21 z22 z23 z24 z25 z26 zz b6 b7 u0) {n11 : Nat} (w : World) (hS : Kp [] u w) (gn11 : u.heap.size ≤ n11) (Bn11 : Blk w n11 (arr 4 (fun _ => 0)) 32) :
    wpAnyH Try.prog .any mu3Ops Q (Kp [] u) 7 (List.toArray (true :: true :: true :: true :: false :: false :: false :: true :: false :: false :: false :: false :: [])) { tmps := List.toArray (z0 :: z1 :: z2 :: z3 :: z4 :: z5 :: (.pointer (some ⟨b6, 0, none⟩)) :: (.pointer (some ⟨b7, 0, none⟩)) :: z8 :: z9 :: z10 :: (.pointer (some ⟨n11, 0, none⟩)) :: z12 :: z13 :: z14 :: z15 :: z16 :: z17 :: z18 :: z19 :: z20 :: z21 :: z22 :: (.agg (arr 4 (limb 1))) :: (.agg (arr 4 (limb 0))) :: (.agg (arr 4 (limb u0))) :: (.agg (arr 4 (limb 1))) :: zz), defers := [] } w := by
  obtain ⟨hQ, hb6, nb6, hb7, nb7, _⟩ := id C
  refine wpAnyH_ready (rs := [4, 5, 6]) (by kernel_rfl) (by simp) ?_
  refine AllReadyH.cons (o := mu3Op4) rfl (fun K hK => ?_) ?_
  · skip
    rw [if_pos (by rfl)]
    refine wp_new _ 32 (alloc_fe _ _ _ rfl) ?_
    intro n8 w' eb Bn8 hbw
    have hS' := hS.call hbw
    refine hK.out _ _ hS' (fun _ => ?_)
    exact wpAnyH_at (by kernel_rfl) (by kernel_rfl) (mu3_11 C w' hS' (by rw [eb]; exact hS.size) Bn8 gn11 (Bn11.call hbw) (by rw [eb]; exact Nat.ne_of_gt Bn11.lt))
  refine AllReadyH.cons (o := mu3Op5) rfl (fun K hK => ?_) ?_
  · skip
    rw [if_pos (by rfl)]
    refine wp_new _ 32 (alloc_fe _ _ _ rfl) ?_
    intro n9 w' eb Bn9 hbw
    have hS' := hS.call hbw
    refine hK.out _ _ hS' (fun _ => ?_)
    exact wpAnyH_at (by kernel_rfl) (by kernel_rfl) (mu3_10 C w' hS' (by rw [eb]; exact hS.size) Bn9 gn11 (Bn11.call hbw) (by rw [eb]; exact Nat.ne_of_gt Bn11.lt))
  refine AllReadyH.cons (o := mu3Op6) rfl (fun K hK => ?_) AllReadyH.nil
  rw [if_pos (by rfl)]
  refine wp_new _ 32 (alloc_fe _ _ _ rfl) ?_
  intro n10 w' eb Bn10 hbw
  have hS' := hS.call hbw
  refine hK.out _ _ hS' (fun _ => ?_)
  exact wpAnyH_at (by kernel_rfl) (by kernel_rfl) (mu3_9 C w' hS' (by rw [eb]; exact hS.size) Bn10 gn11 (Bn11.call hbw) (by rw [eb]; exact Nat.ne_of_gt Bn11.lt))
set_option maxRecDepth 100000 in
set_option maxHeartbeats 2000000 in
theorem mu3_16 (C : mu3C Q u z0 z1 z2 z3 z4 z5 z8 z9 z10 z11 z12 z13 z14 z15 z16 z17 z18 z19 z20 z21 z22 z23 z24 z25 z26 zz b6 b7 u0) {n10 : Nat} (w : World) (hS : Kp [] u w) (gn10 : u.heap.size ≤ n10) (Bn10 : Blk w n10 (arr 4 (fun _ => 0)) 32) :
    wpAnyH Try.prog .any mu3Ops Q (Kp [] u) 7 (List.toArray (true :: true :: true :: true :: false :: false :: true :: false :: false :: false :: false :: false :: [])) { tmps := List.toArray (z0 :: z1 :: z2 :: z3 :: z4 :: z5 :: (.pointer (some ⟨b6, 0, none⟩)) :: (.pointer (some ⟨b7, 0, none⟩)) :: z8 :: z9 :: (.pointer (some ⟨n10, 0, none⟩)) :: z11 :: z12 :: z13 :: z14 :: z15 :: z16 :: z17 :: z18 :: z19 :: z20 :: z21 :: z22 :: (.agg (arr 4 (limb 1))) :: (.agg (arr 4 (limb 0))) :: (.agg (arr 4 (limb u0))) :: (.agg (arr 4 (limb 1))) :: zz), defers := [] } w := by
  obtain ⟨hQ, hb6, nb6, hb7, nb7, _⟩ := id C
  refine wpAnyH_ready (rs := [4, 5, 7]) (by kernel_rfl) (by simp) ?_
  refine AllReadyH.cons (o := mu3Op4) rfl (fun K hK => ?_) ?_
  · skip
    rw [if_pos (by rfl)]
    refine wp_new _ 32 (alloc_fe _ _ _ rfl) ?_
    intro n8 w' eb Bn8 hbw
    have hS' := hS.call hbw
    refine hK.out _ _ hS' (fun _ => ?_)
    exact wpAnyH_at (by kernel_rfl) (by kernel_rfl) (mu3_13 C w' hS' (by rw [eb]; exact hS.size) Bn8 gn10 (Bn10.call hbw) (by rw [eb]; exact Nat.ne_of_gt Bn10.lt))
  refine AllReadyH.cons (o := mu3Op5) rfl (fun K hK => ?_) ?_
  · skip
    rw [if_pos (by rfl)]
    refine wp_new _ 32 (alloc_fe _ _ _ rfl) ?_
    intro n9 w' eb Bn9 hbw
    have hS' := hS.call hbw
    refine hK.out _ _ hS' (fun _ => ?_)
    exact wpAnyH_at (by kernel_rfl) (by kernel_rfl) (mu3_12 C w' hS' (by rw [eb]; exact hS.size) Bn9 gn10 (Bn10.call hbw) (by rw [eb]; exact Nat.ne_of_gt Bn10.lt))
  refine AllReadyH.cons (o := mu3Op7) rfl (fun K hK => ?_) AllReadyH.nil
  rw [if_pos (by rfl)]
  refine wp_new _ 32 (alloc_fe _ _ _ rfl) ?_
  intro n11 w' eb Bn11 hbw
  have hS' := hS.call hbw
  refine hK.out _ _ hS' (fun _ => ?_)
  exact wpAnyH_at (by kernel_rfl) (by kernel_rfl) (mu3_9 C w' hS' gn10 (Bn10.call hbw) (by rw [eb]; exact hS.size) Bn11 (by rw [eb]; exact Nat.ne_of_lt Bn10.lt))
set_option maxRecDepth 100000 in
set_option maxHeartbeats 2000000 in
theorem mu3_17 (C : mu3C Q u z0 z1 z2 z3 z4 z5 z8 z9 z10 z11 z12 z13 z14 z15 z16 z17 z18 z19 z20 z21 z22 z23 z24 z25 z26 zz b6 b7 u0) {n9 : Nat} (w : World) (hS : Kp [] u w) (gn9 : u.heap.size ≤ n9) (Bn9 : Blk w n9 (arr 4 (fun _ => 0)) 32) :
    wpAnyH Try.prog .any mu3Ops Q (Kp [] u) 7 (List.toArray (true :: true :: true :: true :: false :: true :: false :: false :: false :: false :: false :: false :: [])) { tmps := List.toArray (z0 :: z1 :: z2 :: z3 :: z4 :: z5 :: (.pointer (some ⟨b6, 0, none⟩)) :: (.pointer (some ⟨b7, 0, none⟩)) :: z8 :: (.pointer (some ⟨n9, 0, none⟩)) :: z10 :: z11 :: z12 :: z13 :: z14 :: z15 :: z16 :: z17 :: z18 :: z19 :: z20 :: z21 :: z22 :: (.agg (arr 4 (limb 1))) :: (.agg (arr 4 (limb 0))) :: (.agg (arr 4 (limb u0))) :: (.agg (arr 4 (limb 1))) :: zz), defers := [] } w := by
  obtain ⟨hQ, hb6, nb6, hb7, nb7, _⟩ := id C
  refine wpAnyH_ready (rs := [4, 6, 7]) (by kernel_rfl) (by simp) ?_
  refine AllReadyH.cons (o := mu3Op4) rfl (fun K hK => ?_) ?_
  · skip
    rw [if_pos (by rfl)]
    refine wp_new _ 32 (alloc_fe _ _ _ rfl) ?_
    intro n8 w' eb Bn8 hbw
    have hS' := hS.call hbw
    refine hK.out _ _ hS' (fun _ => ?_)
    exact wpAnyH_at (by kernel_rfl) (by kernel_rfl) (mu3_14 C w' hS' (by rw [eb]; exact hS.size) Bn8 gn9 (Bn9.call hbw) (by rw [eb]; exact Nat.ne_of_gt Bn9.lt))
  refine AllReadyH.cons (o := mu3Op6) rfl (fun K hK => ?_) ?_
  · skip
    rw [if_pos (by rfl)]
    refine wp_new _ 32 (alloc_fe _ _ _ rfl) ?_
    intro n10 w' eb Bn10 hbw
    have hS' := hS.call hbw
    refine hK.out _ _ hS' (fun _ => ?_)
    exact wpAnyH_at (by kernel_rfl) (by kernel_rfl) (mu3_12 C w' hS' gn9 (Bn9.call hbw) (by rw [eb]; exact hS.size) Bn10 (by rw [eb]; exact Nat.ne_of_lt Bn9.lt))
  refine AllReadyH.cons (o := mu3Op7) rfl (fun K hK => ?_) AllReadyH.nil
  rw [if_pos (by rfl)]
  refine wp_new _ 32 (alloc_fe _ _ _ rfl) ?_
  intro n11 w' eb Bn11 hbw
  have hS' := hS.call hbw
  refine hK.out _ _ hS' (fun _ => ?_)
  exact wpAnyH_at (by kernel_rfl) (by kernel_rfl) (mu3_10 C w' hS' gn9 (Bn9.call hbw) (by rw [eb]; exact hS.size) Bn11 (by rw [eb]; exact Nat.ne_of_lt Bn9.lt))
set_option maxRecDepth 100000 in
set_option maxHeartbeats 2000000 in
theorem mu3_18 (C : mu3C Q u z0 z1 z2 z3 z4 z5 z8 z9 z10 z11 z12 z13 z14 z15 z16 z17 z18 z19 z20 z21 z22 z23 z24 z25 z26 zz b6 b7 u0) {n8 : Nat} (w : World) (hS : Kp [] u w) (gn8 : u.heap.size ≤ n8) (Bn8 : Blk w n8 (arr 4 (fun _ => 0)) 32) :
    wpAnyH Try.prog .any mu3Ops Q (Kp [] u) 7 (List.toArray (true :: true :: true :: true :: true :: false :: false :: false :: false :: false :: false :: false :: [])) { tmps := List.toArray (z0 :: z1 :: z2 :: z3 :: z4 :: z5 :: (.pointer (some ⟨b6, 0, none⟩)) :: (.pointer (some ⟨b7, 0, none⟩)) :: (.pointer (some ⟨n8, 0, none⟩)) :: z9 :: z10 :: z11 :: z12 :: z13 :: z14 :: z15 :: z16 :: z17 :: z18 :: z19 :: z20 :: z21 :: z22 :: (.agg (arr 4 (limb 1))) :: (.agg (arr 4 (limb 0))) :: (.agg (arr 4 (limb u0))) :: (.agg (arr 4 (limb 1))) :: zz), defers := [] } w := by
  obtain ⟨hQ, hb6, nb6, hb7, nb7, _⟩ := id C
  refine wpAnyH_ready (rs := [5, 6, 7]) (by kernel_rfl) (by simp) ?_
  refine AllReadyH.cons (o := mu3Op5) rfl (fun K hK => ?_) ?_
  · skip
    rw [if_pos (by rfl)]
    refine wp_new _ 32 (alloc_fe _ _ _ rfl) ?_
    intro n9 w' eb Bn9 hbw
    have hS' := hS.call hbw
    refine hK.out _ _ hS' (fun _ => ?_)
    exact wpAnyH_at (by kernel_rfl) (by kernel_rfl) (mu3_14 C w' hS' gn8 (Bn8.call hbw) (by rw [eb]; exact hS.size) Bn9 (by rw [eb]; exact Nat.ne_of_lt Bn8.lt))
  refine AllReadyH.cons (o := mu3Op6) rfl (fun K hK => ?_) ?_
  · skip
    rw [if_pos (by rfl)]
    refine wp_new _ 32 (alloc_fe _ _ _ rfl) ?_
    intro n10 w' eb Bn10 hbw
    have hS' := hS.call hbw
    refine hK.out _ _ hS' (fun _ => ?_)
    exact wpAnyH_at (by kernel_rfl) (by kernel_rfl) (mu3_13 C w' hS' gn8 (Bn8.call hbw) (by rw [eb]; exact hS.size) Bn10 (by rw [eb]; exact Nat.ne_of_lt Bn8.lt))
  refine AllReadyH.cons (o := mu3Op7) rfl (fun K hK => ?_) AllReadyH.nil
  rw [if_pos (by rfl)]
  refine wp_new _ 32 (alloc_fe _ _ _ rfl) ?_
  intro n11 w' eb Bn11 hbw
  have hS' := hS.call hbw
  refine hK.out _ _ hS' (fun _ => ?_)
  exact wpAnyH_at (by kernel_rfl) (by kernel_rfl) (mu3_11 C w' hS' gn8 (Bn8.call hbw) (by rw [eb]; exact hS.size) Bn11 (by rw [eb]; exact Nat.ne_of_lt Bn8.lt))
set_option maxRecDepth 100000 in
set_option maxHeartbeats 2000000 in
theorem mu3_19 (C : mu3C Q u z0 z1 z2 z3 z4 z5 z8 z9 z10 z11 z12 z13 z14 z15 z16 z17 z18 z19 z20 z21 z22 z23 z24 z25 z26 zz b6 b7 u0) (w : World) (hS : Kp [] u w) :
    wpAnyH Try.prog .any mu3Ops Q (Kp [] u) 8 (List.toArray (true :: true :: true :: true :: false :: false :: false :: false :: false :: false :: false :: false :: [])) { tmps := List.toArray (z0 :: z1 :: z2 :: z3 :: z4 :: z5 :: (.pointer (some ⟨b6, 0, none⟩)) :: (.pointer (some ⟨b7, 0, none⟩)) :: z8 :: z9 :: z10 :: z11 :: z12 :: z13 :: z14 :: z15 :: z16 :: z17 :: z18 :: z19 :: z20 :: z21 :: z22 :: (.agg (arr 4 (limb 1))) :: (.agg (arr 4 (limb 0))) :: (.agg (arr 4 (limb u0))) :: (.agg (arr 4 (limb 1))) :: zz), defers := [] } w := by
  obtain ⟨hQ, hb6, nb6, hb7, nb7, _⟩ := id C
  refine wpAnyH_ready (rs := [4, 5, 6, 7]) (by kernel_rfl) (by simp) ?_
  refine AllReadyH.cons (o := mu3Op4) rfl (fun K hK => ?_) ?_
  · skip
    rw [if_pos (by rfl)]
    refine wp_new _ 32 (alloc_fe _ _ _ rfl) ?_
    intro n8 w' eb Bn8 hbw
    have hS' := hS.call hbw
    refine hK.out _ _ hS' (fun _ => ?_)
    exact wpAnyH_at (by kernel_rfl) (by kernel_rfl) (mu3_18 C w' hS' (by rw [eb]; exact hS.size) Bn8)
  refine AllReadyH.cons (o := mu3Op5) rfl (fun K hK => ?_) ?_
  · skip
    rw [if_pos (by rfl)]
    refine wp_new _ 32 (alloc_fe _ _ _ rfl) ?_
    intro n9 w' eb Bn9 hbw
    have hS' := hS.call hbw
    refine hK.out _ _ hS' (fun _ => ?_)
    exact wpAnyH_at (by kernel_rfl) (by kernel_rfl) (mu3_17 C w' hS' (by rw [eb]; exact hS.size) Bn9)
  refine AllReadyH.cons (o := mu3Op6) rfl (fun K hK => ?_) ?_
  · skip
    rw [if_pos (by rfl)]
    refine wp_new _ 32 (alloc_fe _ _ _ rfl) ?_
    intro n10 w' eb Bn10 hbw
    have hS' := hS.call hbw
    refine hK.out _ _ hS' (fun _ => ?_)
    exact wpAnyH_at (by kernel_rfl) (by kernel_rfl) (mu3_16 C w' hS' (by rw [eb]; exact hS.size) Bn10)
  refine AllReadyH.cons (o := mu3Op7) rfl (fun K hK => ?_) AllReadyH.nil
  rw [if_pos (by rfl)]
  refine wp_new _ 32 (alloc_fe _ _ _ rfl) ?_
  intro n11 w' eb Bn11 hbw
  have hS' := hS.call hbw
  refine hK.out _ _ hS' (fun _ => ?_)
  exact wpAnyH_at (by kernel_rfl) (by kernel_rfl) (mu3_15 C w' hS' (by rw [eb]; exact hS.size) Bn11)
end
set_option maxRecDepth 100000 in
set_option maxHeartbeats 2000000 in
theorem mu3_region (Q : Exit → Act → World → Prop) (hQ : ∀ c a w n v, Q (.panic c) (a.put (some n) v) w → Q (.panic c) a w) (u : World) (z0 z1 z2 z3 z4 z5 z8 z9 z10 z11 z12 z13 z14 z15 z16 z17 z18 z19 z20 z21 z22 z23 z24 z25 z26 : Value) (zz : List Value) (b6 b7 : Nat) (u0 : Nat) (hb6 : Blk u b6 (arr 4 (limb u0)) 32) (nb6 : b6 ∉ ([] : List Nat)) (hb7 : Blk u b7 (arr 4 (limb 1)) 32) (nb7 : b7 ∉ ([] : List Nat)) (H : ∀ (n8 : Nat) (n9 : Nat) (n10 : Nat) (n11 : Nat) (w : World), Kp [] u w → u.heap.size ≤ n8 → Blk w n8 (arr 4 (limb 1)) 32 → u.heap.size ≤ n9 → Blk w n9 (arr 4 (limb 0)) 32 → u.heap.size ≤ n10 → Blk w n10 (arr 4 (limb u0)) 32 → u.heap.size ≤ n11 → Blk w n11 (arr 4 (limb 1)) 32 → n8 ≠ n9 → n8 ≠ n10 → n8 ≠ n11 → n9 ≠ n10 → n9 ≠ n11 → n10 ≠ n11 → Q .normal { tmps := List.toArray (z0 :: z1 :: z2 :: z3 :: z4 :: z5 :: (.pointer (some ⟨b6, 0, none⟩)) :: (.pointer (some ⟨b7, 0, none⟩)) :: (.pointer (some ⟨n8, 0, none⟩)) :: (.pointer (some ⟨n9, 0, none⟩)) :: (.pointer (some ⟨n10, 0, none⟩)) :: (.pointer (some ⟨n11, 0, none⟩)) :: z12 :: z13 :: z14 :: z15 :: z16 :: z17 :: z18 :: z19 :: z20 :: z21 :: z22 :: (.agg (arr 4 (limb 1))) :: (.agg (arr 4 (limb 0))) :: (.agg (arr 4 (limb u0))) :: (.agg (arr 4 (limb 1))) :: zz), defers := [] } w) :
    (Code.region 3 mu3Ops true).wp Try.prog Q { tmps := List.toArray (z0 :: z1 :: z2 :: z3 :: z4 :: z5 :: (.pointer (some ⟨b6, 0, none⟩)) :: (.pointer (some ⟨b7, 0, none⟩)) :: z8 :: z9 :: z10 :: z11 :: z12 :: z13 :: z14 :: z15 :: z16 :: z17 :: z18 :: z19 :: z20 :: z21 :: z22 :: z23 :: z24 :: z25 :: z26 :: zz), defers := [] } u := by
  have C : mu3C Q u z0 z1 z2 z3 z4 z5 z8 z9 z10 z11 z12 z13 z14 z15 z16 z17 z18 z19 z20 z21 z22 z23 z24 z25 z26 zz b6 b7 u0 := ⟨hQ, hb6, nb6, hb7, nb7, H⟩
  refine wp_region_held_drew (S := (Kp [] u)) (by kernel_rfl) (Kp.drew _ u) (fun hS' => ?_)
  refine wpAnyH_take (i := 0) (oi := mu3Op0) (v := .agg (arr 4 (limb 1))) rfl (by kernel_rfl) (by kernel_rfl) (by kernel_rfl) (fun _ _ _ => hQ _ _ _ _ _) (yields_S (fun _ h => h.keep _ _ _ nb7 hb7) (by kernel_rfl) 32 _ rfl (by kernel_rfl) _ Try.underlying32 rfl (size_fe _)) hS' ?_
  refine wpAnyH_take (i := 1) (oi := mu3Op1) (v := .agg (arr 4 (limb 0))) rfl (by kernel_rfl) (by kernel_rfl) (by kernel_rfl) (fun _ _ _ => hQ _ _ _ _ _) (Or.inl ⟨by kernel_rfl, fun _ _ => by kernel_rfl⟩) hS' ?_
  refine wpAnyH_take (i := 2) (oi := mu3Op2) (v := .agg (arr 4 (limb u0))) rfl (by kernel_rfl) (by kernel_rfl) (by kernel_rfl) (fun _ _ _ => hQ _ _ _ _ _) (yields_S (fun _ h => h.keep _ _ _ nb6 hb6) (by kernel_rfl) 32 _ rfl (by kernel_rfl) _ Try.underlying32 rfl (size_fe _)) hS' ?_
  refine wpAnyH_take (i := 3) (oi := mu3Op3) (v := .agg (arr 4 (limb 1))) rfl (by kernel_rfl) (by kernel_rfl) (by kernel_rfl) (fun _ _ _ => hQ _ _ _ _ _) (yields_S (fun _ h => h.keep _ _ _ nb7 hb7) (by kernel_rfl) 32 _ rfl (by kernel_rfl) _ Try.underlying32 rfl (size_fe _)) hS' ?_
  exact wpAnyH_at (by kernel_rfl) (by kernel_rfl) (mu3_19 C u.drew hS' )
def mu8Op0 : Oper := { dst := some 31, op := Op.load 22 (Operand.tmp 5), type := 22, pos := "ladder.go:20", after := #[], guard := none }
def mu8Op1 : Oper := { dst := some 32, op := Op.move (Operand.tmp 13), type := 3, pos := "ladder.go:20", after := #[], guard := none }
def mu8Op2 : Oper := { dst := some 33, op := Op.binOp BinOp.sub 3 (Operand.const (Value.int IntKind.i64 254)) (Operand.tmp 32) 3, type := 3, pos := "ladder.go:20", after := #[{ on := 1, ground := Ground.data }], guard := none }
def mu8Op3 : Oper := { dst := some 34, op := Op.call { callee := Callee.value (Operand.func 20), args := #[Operand.tmp 31, Operand.tmp 33], argTypes := #[22, 3] }, type := 4, pos := "ladder.go:20", after := #[{ on := 0, ground := Ground.data }, { on := 2, ground := Ground.data }], guard := none }
def mu8Op4 : Oper := { dst := some 14, op := Op.assign (Operand.tmp 34), type := 4, pos := "ladder.go:20", after := #[{ on := 3, ground := Ground.data }, { on := 3, ground := Ground.chain }, { on := 0, ground := Ground.phase }, { on := 1, ground := Ground.phase }, { on := 2, ground := Ground.phase }, { on := 3, ground := Ground.phase }], guard := none }
def mu8Ops : Array Oper := #[mu8Op0, mu8Op1, mu8Op2, mu8Op3, mu8Op4]
set_option maxRecDepth 100000 in
set_option maxHeartbeats 2000000 in
theorem mu8_region (Q : Exit → Act → World → Prop) (hQ : ∀ c a w n v, Q (.panic c) (a.put (some n) v) w → Q (.panic c) a w) (u : World) (z0 z1 z2 z3 z4 z6 z7 z8 z9 z10 z11 z12 z14 z15 z16 z17 z18 z19 z20 z21 z22 z23 z24 z25 z26 z27 z28 z29 z30 z31 z32 z33 z34 : Value) (zz : List Value) (b5 : Nat) (f : Nat → Nat) (k i : Nat) (hf : ∀ i, f i < 256) (hi : i < 255) (ki : IntKind.i64.wrap (254 - ((k : Nat) : Int)) = ((i : Nat) : Int)) (hb5 : Blk u b5 (vals .u8 32 f) 22) (nb5 : b5 ∉ ([] : List Nat)) (H : ∀ (w : World), Kp [] u w → Q .normal { tmps := List.toArray (z0 :: z1 :: z2 :: z3 :: z4 :: (.pointer (some ⟨b5, 0, none⟩)) :: z6 :: z7 :: z8 :: z9 :: z10 :: z11 :: z12 :: (.int .i64 ((k : Nat) : Int)) :: (.bool (f (i / 8) / 2 ^ (i % 8) % 2 == 1)) :: z15 :: z16 :: z17 :: z18 :: z19 :: z20 :: z21 :: z22 :: z23 :: z24 :: z25 :: z26 :: z27 :: z28 :: z29 :: z30 :: (.agg (vals .u8 32 f)) :: (.int .i64 ((k : Nat) : Int)) :: (.int .i64 ((i : Nat) : Int)) :: (.bool (f (i / 8) / 2 ^ (i % 8) % 2 == 1)) :: zz), defers := [] } w) :
    (Code.region 8 mu8Ops false).wp Try.prog Q { tmps := List.toArray (z0 :: z1 :: z2 :: z3 :: z4 :: (.pointer (some ⟨b5, 0, none⟩)) :: z6 :: z7 :: z8 :: z9 :: z10 :: z11 :: z12 :: (.int .i64 ((k : Nat) : Int)) :: z14 :: z15 :: z16 :: z17 :: z18 :: z19 :: z20 :: z21 :: z22 :: z23 :: z24 :: z25 :: z26 :: z27 :: z28 :: z29 :: z30 :: z31 :: z32 :: z33 :: z34 :: zz), defers := [] } u := by
  have _ := hQ
  have _ := u
  have _ := z0
  have _ := z1
  have _ := z2
  have _ := z3
  have _ := z4
  have _ := z6
  have _ := z7
  have _ := z8
  have _ := z9
  have _ := z10
  have _ := z11
  have _ := z12
  have _ := z14
  have _ := z15
  have _ := z16
  have _ := z17
  have _ := z18
  have _ := z19
  have _ := z20
  have _ := z21
  have _ := z22
  have _ := z23
  have _ := z24
  have _ := z25
  have _ := z26
  have _ := z27
  have _ := z28
  have _ := z29
  have _ := z30
  have _ := z31
  have _ := z32
  have _ := z33
  have _ := z34
  have _ := zz
  have _ := b5
  have _ := f
  have _ := k
  have _ := i
  have _ := hf
  have _ := hi
  have _ := ki
  have _ := hb5
  have _ := nb5
  refine wp_region_list (show wpList _ mu8Ops _ [mu8Op0, mu8Op1, mu8Op2, mu8Op3, mu8Op4] _ _ from ?_)
  have hS : Kp [] u u := Kp.refl _ u
  refine wpList_plain rfl (fun K hK => ?_)
  refine wp_load_row 22 _ rfl b5 (by kernel_rfl) 22 _ (0, 0) _ (hS.keep _ _ _ nb5 hb5) Try.underlying22 rfl (size_by _) ?_
  have hS' := hS
  refine hK _ _ ?_
  clear hK K
  clear hS
  have hS := hS'
  clear hS'
  refine wpList_fr (a' := { tmps := List.toArray (z0 :: z1 :: z2 :: z3 :: z4 :: (.pointer (some ⟨b5, 0, none⟩)) :: z6 :: z7 :: z8 :: z9 :: z10 :: z11 :: z12 :: (.int .i64 ((k : Nat) : Int)) :: z14 :: z15 :: z16 :: z17 :: z18 :: z19 :: z20 :: z21 :: z22 :: z23 :: z24 :: z25 :: z26 :: z27 :: z28 :: z29 :: z30 :: (.agg (vals .u8 32 f)) :: z32 :: z33 :: z34 :: zz), defers := [] }) (by kernel_rfl) ?_
  refine wpList_plain rfl (fun K hK => ?_)
  refine wp_val (.int .i64 ((k : Nat) : Int)) (by kernel_rfl) ?_
  have hS' := hS
  refine hK _ _ ?_
  clear hK K
  clear hS
  have hS := hS'
  clear hS'
  refine wpList_fr (a' := { tmps := List.toArray (z0 :: z1 :: z2 :: z3 :: z4 :: (.pointer (some ⟨b5, 0, none⟩)) :: z6 :: z7 :: z8 :: z9 :: z10 :: z11 :: z12 :: (.int .i64 ((k : Nat) : Int)) :: z14 :: z15 :: z16 :: z17 :: z18 :: z19 :: z20 :: z21 :: z22 :: z23 :: z24 :: z25 :: z26 :: z27 :: z28 :: z29 :: z30 :: (.agg (vals .u8 32 f)) :: (.int .i64 ((k : Nat) : Int)) :: z33 :: z34 :: zz), defers := [] }) (by kernel_rfl) ?_
  refine wpList_plain rfl (fun K hK => ?_)
  refine wp_val (.int .i64 ((i : Nat) : Int)) (by rw [← ki]; kernel_rfl) ?_
  have hS' := hS
  refine hK _ _ ?_
  clear hK K
  clear hS
  have hS := hS'
  clear hS'
  refine wpList_fr (a' := { tmps := List.toArray (z0 :: z1 :: z2 :: z3 :: z4 :: (.pointer (some ⟨b5, 0, none⟩)) :: z6 :: z7 :: z8 :: z9 :: z10 :: z11 :: z12 :: (.int .i64 ((k : Nat) : Int)) :: z14 :: z15 :: z16 :: z17 :: z18 :: z19 :: z20 :: z21 :: z22 :: z23 :: z24 :: z25 :: z26 :: z27 :: z28 :: z29 :: z30 :: (.agg (vals .u8 32 f)) :: (.int .i64 ((k : Nat) : Int)) :: (.int .i64 ((i : Nat) : Int)) :: z34 :: zz), defers := [] }) (by kernel_rfl) ?_
  refine wpList_plain rfl (fun K hK => ?_)
  refine wp_call_val 20 #[.agg (vals .u8 32 f), .int .i64 ((i : Nat) : Int)] (by kernel_rfl) (.bool (f (i / 8) / 2 ^ (i % 8) % 2 == 1)) (bitOf_c f i _ hf hi) ?_
  intro w3 hbw
  have hS' := hS.call hbw
  refine hK _ _ ?_
  clear hK K
  clear hS
  have hS := hS'
  clear hS'
  refine wpList_fr (a' := { tmps := List.toArray (z0 :: z1 :: z2 :: z3 :: z4 :: (.pointer (some ⟨b5, 0, none⟩)) :: z6 :: z7 :: z8 :: z9 :: z10 :: z11 :: z12 :: (.int .i64 ((k : Nat) : Int)) :: z14 :: z15 :: z16 :: z17 :: z18 :: z19 :: z20 :: z21 :: z22 :: z23 :: z24 :: z25 :: z26 :: z27 :: z28 :: z29 :: z30 :: (.agg (vals .u8 32 f)) :: (.int .i64 ((k : Nat) : Int)) :: (.int .i64 ((i : Nat) : Int)) :: (.bool (f (i / 8) / 2 ^ (i % 8) % 2 == 1)) :: zz), defers := [] }) (by kernel_rfl) ?_
  refine wpList_plain rfl (fun K hK => ?_)
  refine wp_val (.bool (f (i / 8) / 2 ^ (i % 8) % 2 == 1)) (by kernel_rfl) ?_
  have hS' := hS
  refine hK _ _ ?_
  clear hK K
  clear hS
  have hS := hS'
  clear hS'
  refine wpList_fr (a' := { tmps := List.toArray (z0 :: z1 :: z2 :: z3 :: z4 :: (.pointer (some ⟨b5, 0, none⟩)) :: z6 :: z7 :: z8 :: z9 :: z10 :: z11 :: z12 :: (.int .i64 ((k : Nat) : Int)) :: (.bool (f (i / 8) / 2 ^ (i % 8) % 2 == 1)) :: z15 :: z16 :: z17 :: z18 :: z19 :: z20 :: z21 :: z22 :: z23 :: z24 :: z25 :: z26 :: z27 :: z28 :: z29 :: z30 :: (.agg (vals .u8 32 f)) :: (.int .i64 ((k : Nat) : Int)) :: (.int .i64 ((i : Nat) : Int)) :: (.bool (f (i / 8) / 2 ^ (i % 8) % 2 == 1)) :: zz), defers := [] }) (by kernel_rfl) ?_
  refine wpList_nil ?_
  exact H  w3 hS 
def mu10Op0 : Oper := { dst := some 39, op := Op.load 32 (Operand.tmp 8), type := 32, pos := "ladder.go:22", after := #[], guard := none }
def mu10Op1 : Oper := { dst := some 40, op := Op.load 32 (Operand.tmp 9), type := 32, pos := "ladder.go:22", after := #[], guard := none }
def mu10Op2 : Oper := { dst := some 41, op := Op.load 32 (Operand.tmp 10), type := 32, pos := "ladder.go:22", after := #[], guard := none }
def mu10Op3 : Oper := { dst := some 42, op := Op.load 32 (Operand.tmp 11), type := 32, pos := "ladder.go:22", after := #[], guard := none }
def mu10Op4 : Oper := { dst := some 43, op := Op.call { callee := Callee.value (Operand.func 21), args := #[Operand.tmp 39, Operand.tmp 40, Operand.tmp 41, Operand.tmp 42], argTypes := #[32, 32, 32, 32] }, type := 42, pos := "ladder.go:22", after := #[{ on := 0, ground := Ground.data }, { on := 1, ground := Ground.data }, { on := 2, ground := Ground.data }, { on := 3, ground := Ground.data }], guard := none }
def mu10Op5 : Oper := { dst := some 38, op := Op.move (Operand.tmp 43), type := 42, pos := "ladder.go:22", after := #[{ on := 4, ground := Ground.data }], guard := none }
def mu10Op6 : Oper := { dst := some 44, op := Op.extract (Operand.tmp 38) 0, type := 32, pos := "ladder.go:22", after := #[{ on := 5, ground := Ground.data }], guard := none }
def mu10Op7 : Oper := { dst := some 45, op := Op.extract (Operand.tmp 38) 1, type := 32, pos := "ladder.go:22", after := #[{ on := 5, ground := Ground.data }, { on := 10, ground := Ground.gcOnly Departure.lateStores }], guard := none }
def mu10Op8 : Oper := { dst := some 15, op := Op.alloc 32, type := 0, pos := "ladder.go:22", after := #[], guard := none }
def mu10Op9 : Oper := { dst := some 16, op := Op.alloc 32, type := 0, pos := "ladder.go:22", after := #[], guard := none }
def mu10Op10 : Oper := { dst := none, op := Op.store 32 (Operand.tmp 15) (Operand.tmp 44), type := 0, pos := "ladder.go:22", after := #[{ on := 8, ground := Ground.data }, { on := 6, ground := Ground.data }, { on := 4, ground := Ground.chain }, { on := 0, ground := Ground.phase }, { on := 1, ground := Ground.phase }, { on := 2, ground := Ground.phase }, { on := 3, ground := Ground.phase }, { on := 4, ground := Ground.phase }, { on := 5, ground := Ground.phase }, { on := 6, ground := Ground.phase }, { on := 7, ground := Ground.textOnly Departure.lateStores }, { on := 8, ground := Ground.phase }, { on := 9, ground := Ground.phase }], guard := none }
def mu10Op11 : Oper := { dst := none, op := Op.store 32 (Operand.tmp 16) (Operand.tmp 45), type := 0, pos := "ladder.go:22", after := #[{ on := 9, ground := Ground.data }, { on := 7, ground := Ground.data }, { on := 10, ground := Ground.chain }, { on := 0, ground := Ground.phase }, { on := 1, ground := Ground.phase }, { on := 2, ground := Ground.phase }, { on := 3, ground := Ground.phase }, { on := 4, ground := Ground.phase }, { on := 5, ground := Ground.phase }, { on := 6, ground := Ground.phase }, { on := 7, ground := Ground.phase }, { on := 8, ground := Ground.phase }, { on := 9, ground := Ground.phase }, { on := 10, ground := Ground.phase }], guard := none }
def mu10Ops : Array Oper := #[mu10Op0, mu10Op1, mu10Op2, mu10Op3, mu10Op4, mu10Op5, mu10Op6, mu10Op7, mu10Op8, mu10Op9, mu10Op10, mu10Op11]
set_option maxRecDepth 100000 in
set_option maxHeartbeats 2000000 in
theorem mu10_region (Q : Exit → Act → World → Prop) (hQ : ∀ c a w n v, Q (.panic c) (a.put (some n) v) w → Q (.panic c) a w) (u : World) (z0 z1 z2 z3 z4 z5 z6 z7 z12 z13 z14 z15 z16 z17 z18 z19 z20 z21 z22 z23 z24 z25 z26 z27 z28 z29 z30 z31 z32 z33 z34 z35 z36 z37 z38 z39 z40 z41 z42 z43 z44 z45 : Value) (zz : List Value) (b8 b9 b10 b11 : Nat) (a b c d : Nat) (ha : a < pP) (hb : b < pP) (hc : c < pP) (hd : d < pP) (hb8 : Blk u b8 (arr 4 (limb a)) 32) (nb8 : b8 ∉ ([] : List Nat)) (hb9 : Blk u b9 (arr 4 (limb b)) 32) (nb9 : b9 ∉ ([] : List Nat)) (hb10 : Blk u b10 (arr 4 (limb c)) 32) (nb10 : b10 ∉ ([] : List Nat)) (hb11 : Blk u b11 (arr 4 (limb d)) 32) (nb11 : b11 ∉ ([] : List Nat)) (H : ∀ (n15 : Nat) (n16 : Nat) (w : World), Kp [] u w → u.heap.size ≤ n15 → Blk w n15 (arr 4 (limb (mm (am c d) (sm a b)))) 32 → u.heap.size ≤ n16 → Blk w n16 (arr 4 (limb (mm (sm c d) (am a b)))) 32 → n15 ≠ n16 → Q .normal { tmps := List.toArray (z0 :: z1 :: z2 :: z3 :: z4 :: z5 :: z6 :: z7 :: (.pointer (some ⟨b8, 0, none⟩)) :: (.pointer (some ⟨b9, 0, none⟩)) :: (.pointer (some ⟨b10, 0, none⟩)) :: (.pointer (some ⟨b11, 0, none⟩)) :: z12 :: z13 :: z14 :: (.pointer (some ⟨n15, 0, none⟩)) :: (.pointer (some ⟨n16, 0, none⟩)) :: z17 :: z18 :: z19 :: z20 :: z21 :: z22 :: z23 :: z24 :: z25 :: z26 :: z27 :: z28 :: z29 :: z30 :: z31 :: z32 :: z33 :: z34 :: z35 :: z36 :: z37 :: (.tuple #[.agg (arr 4 (limb (mm (am c d) (sm a b)))), .agg (arr 4 (limb (mm (sm c d) (am a b))))]) :: (.agg (arr 4 (limb a))) :: (.agg (arr 4 (limb b))) :: (.agg (arr 4 (limb c))) :: (.agg (arr 4 (limb d))) :: (.tuple #[.agg (arr 4 (limb (mm (am c d) (sm a b)))), .agg (arr 4 (limb (mm (sm c d) (am a b))))]) :: (.agg (arr 4 (limb (mm (am c d) (sm a b))))) :: (.agg (arr 4 (limb (mm (sm c d) (am a b))))) :: zz), defers := [] } w) :
    (Code.region 10 mu10Ops false).wp Try.prog Q { tmps := List.toArray (z0 :: z1 :: z2 :: z3 :: z4 :: z5 :: z6 :: z7 :: (.pointer (some ⟨b8, 0, none⟩)) :: (.pointer (some ⟨b9, 0, none⟩)) :: (.pointer (some ⟨b10, 0, none⟩)) :: (.pointer (some ⟨b11, 0, none⟩)) :: z12 :: z13 :: z14 :: z15 :: z16 :: z17 :: z18 :: z19 :: z20 :: z21 :: z22 :: z23 :: z24 :: z25 :: z26 :: z27 :: z28 :: z29 :: z30 :: z31 :: z32 :: z33 :: z34 :: z35 :: z36 :: z37 :: z38 :: z39 :: z40 :: z41 :: z42 :: z43 :: z44 :: z45 :: zz), defers := [] } u := by
  have _ := hQ
  have _ := u
  have _ := z0
  have _ := z1
  have _ := z2
  have _ := z3
  have _ := z4
  have _ := z5
  have _ := z6
  have _ := z7
  have _ := z12
  have _ := z13
  have _ := z14
  have _ := z15
  have _ := z16
  have _ := z17
  have _ := z18
  have _ := z19
  have _ := z20
  have _ := z21
  have _ := z22
  have _ := z23
  have _ := z24
  have _ := z25
  have _ := z26
  have _ := z27
  have _ := z28
  have _ := z29
  have _ := z30
  have _ := z31
  have _ := z32
  have _ := z33
  have _ := z34
  have _ := z35
  have _ := z36
  have _ := z37
  have _ := z38
  have _ := z39
  have _ := z40
  have _ := z41
  have _ := z42
  have _ := z43
  have _ := z44
  have _ := z45
  have _ := zz
  have _ := b8
  have _ := b9
  have _ := b10
  have _ := b11
  have _ := a
  have _ := b
  have _ := c
  have _ := d
  have _ := ha
  have _ := hb
  have _ := hc
  have _ := hd
  have _ := hb8
  have _ := nb8
  have _ := hb9
  have _ := nb9
  have _ := hb10
  have _ := nb10
  have _ := hb11
  have _ := nb11
  refine wp_region_list (show wpList _ mu10Ops _ [mu10Op0, mu10Op1, mu10Op2, mu10Op3, mu10Op4, mu10Op5, mu10Op6, mu10Op7, mu10Op8, mu10Op9, mu10Op10, mu10Op11] _ _ from ?_)
  have hS : Kp [] u u := Kp.refl _ u
  refine wpList_plain rfl (fun K hK => ?_)
  refine wp_load_row 32 _ rfl b8 (by kernel_rfl) 32 _ (0, 0) _ (hS.keep _ _ _ nb8 hb8) Try.underlying32 rfl (size_fe _) ?_
  have hS' := hS
  refine hK _ _ ?_
  clear hK K
  clear hS
  have hS := hS'
  clear hS'
  refine wpList_fr (a' := { tmps := List.toArray (z0 :: z1 :: z2 :: z3 :: z4 :: z5 :: z6 :: z7 :: (.pointer (some ⟨b8, 0, none⟩)) :: (.pointer (some ⟨b9, 0, none⟩)) :: (.pointer (some ⟨b10, 0, none⟩)) :: (.pointer (some ⟨b11, 0, none⟩)) :: z12 :: z13 :: z14 :: z15 :: z16 :: z17 :: z18 :: z19 :: z20 :: z21 :: z22 :: z23 :: z24 :: z25 :: z26 :: z27 :: z28 :: z29 :: z30 :: z31 :: z32 :: z33 :: z34 :: z35 :: z36 :: z37 :: z38 :: (.agg (arr 4 (limb a))) :: z40 :: z41 :: z42 :: z43 :: z44 :: z45 :: zz), defers := [] }) (by kernel_rfl) ?_
  refine wpList_plain rfl (fun K hK => ?_)
  refine wp_load_row 32 _ rfl b9 (by kernel_rfl) 32 _ (0, 0) _ (hS.keep _ _ _ nb9 hb9) Try.underlying32 rfl (size_fe _) ?_
  have hS' := hS
  refine hK _ _ ?_
  clear hK K
  clear hS
  have hS := hS'
  clear hS'
  refine wpList_fr (a' := { tmps := List.toArray (z0 :: z1 :: z2 :: z3 :: z4 :: z5 :: z6 :: z7 :: (.pointer (some ⟨b8, 0, none⟩)) :: (.pointer (some ⟨b9, 0, none⟩)) :: (.pointer (some ⟨b10, 0, none⟩)) :: (.pointer (some ⟨b11, 0, none⟩)) :: z12 :: z13 :: z14 :: z15 :: z16 :: z17 :: z18 :: z19 :: z20 :: z21 :: z22 :: z23 :: z24 :: z25 :: z26 :: z27 :: z28 :: z29 :: z30 :: z31 :: z32 :: z33 :: z34 :: z35 :: z36 :: z37 :: z38 :: (.agg (arr 4 (limb a))) :: (.agg (arr 4 (limb b))) :: z41 :: z42 :: z43 :: z44 :: z45 :: zz), defers := [] }) (by kernel_rfl) ?_
  refine wpList_plain rfl (fun K hK => ?_)
  refine wp_load_row 32 _ rfl b10 (by kernel_rfl) 32 _ (0, 0) _ (hS.keep _ _ _ nb10 hb10) Try.underlying32 rfl (size_fe _) ?_
  have hS' := hS
  refine hK _ _ ?_
  clear hK K
  clear hS
  have hS := hS'
  clear hS'
  refine wpList_fr (a' := { tmps := List.toArray (z0 :: z1 :: z2 :: z3 :: z4 :: z5 :: z6 :: z7 :: (.pointer (some ⟨b8, 0, none⟩)) :: (.pointer (some ⟨b9, 0, none⟩)) :: (.pointer (some ⟨b10, 0, none⟩)) :: (.pointer (some ⟨b11, 0, none⟩)) :: z12 :: z13 :: z14 :: z15 :: z16 :: z17 :: z18 :: z19 :: z20 :: z21 :: z22 :: z23 :: z24 :: z25 :: z26 :: z27 :: z28 :: z29 :: z30 :: z31 :: z32 :: z33 :: z34 :: z35 :: z36 :: z37 :: z38 :: (.agg (arr 4 (limb a))) :: (.agg (arr 4 (limb b))) :: (.agg (arr 4 (limb c))) :: z42 :: z43 :: z44 :: z45 :: zz), defers := [] }) (by kernel_rfl) ?_
  refine wpList_plain rfl (fun K hK => ?_)
  refine wp_load_row 32 _ rfl b11 (by kernel_rfl) 32 _ (0, 0) _ (hS.keep _ _ _ nb11 hb11) Try.underlying32 rfl (size_fe _) ?_
  have hS' := hS
  refine hK _ _ ?_
  clear hK K
  clear hS
  have hS := hS'
  clear hS'
  refine wpList_fr (a' := { tmps := List.toArray (z0 :: z1 :: z2 :: z3 :: z4 :: z5 :: z6 :: z7 :: (.pointer (some ⟨b8, 0, none⟩)) :: (.pointer (some ⟨b9, 0, none⟩)) :: (.pointer (some ⟨b10, 0, none⟩)) :: (.pointer (some ⟨b11, 0, none⟩)) :: z12 :: z13 :: z14 :: z15 :: z16 :: z17 :: z18 :: z19 :: z20 :: z21 :: z22 :: z23 :: z24 :: z25 :: z26 :: z27 :: z28 :: z29 :: z30 :: z31 :: z32 :: z33 :: z34 :: z35 :: z36 :: z37 :: z38 :: (.agg (arr 4 (limb a))) :: (.agg (arr 4 (limb b))) :: (.agg (arr 4 (limb c))) :: (.agg (arr 4 (limb d))) :: z43 :: z44 :: z45 :: zz), defers := [] }) (by kernel_rfl) ?_
  refine wpList_plain rfl (fun K hK => ?_)
  refine wp_call_val 21 #[.agg (arr 4 (limb a)), .agg (arr 4 (limb b)), .agg (arr 4 (limb c)), .agg (arr 4 (limb d))] (by kernel_rfl) (.tuple #[.agg (arr 4 (limb (mm (am c d) (sm a b)))), .agg (arr 4 (limb (mm (sm c d) (am a b))))]) (crossed_c a b c d _ ha hb hc hd) ?_
  intro w4 hbw
  have hS' := hS.call hbw
  refine hK _ _ ?_
  clear hK K
  clear hS
  have hS := hS'
  clear hS'
  refine wpList_fr (a' := { tmps := List.toArray (z0 :: z1 :: z2 :: z3 :: z4 :: z5 :: z6 :: z7 :: (.pointer (some ⟨b8, 0, none⟩)) :: (.pointer (some ⟨b9, 0, none⟩)) :: (.pointer (some ⟨b10, 0, none⟩)) :: (.pointer (some ⟨b11, 0, none⟩)) :: z12 :: z13 :: z14 :: z15 :: z16 :: z17 :: z18 :: z19 :: z20 :: z21 :: z22 :: z23 :: z24 :: z25 :: z26 :: z27 :: z28 :: z29 :: z30 :: z31 :: z32 :: z33 :: z34 :: z35 :: z36 :: z37 :: z38 :: (.agg (arr 4 (limb a))) :: (.agg (arr 4 (limb b))) :: (.agg (arr 4 (limb c))) :: (.agg (arr 4 (limb d))) :: (.tuple #[.agg (arr 4 (limb (mm (am c d) (sm a b)))), .agg (arr 4 (limb (mm (sm c d) (am a b))))]) :: z44 :: z45 :: zz), defers := [] }) (by kernel_rfl) ?_
  refine wpList_plain rfl (fun K hK => ?_)
  refine wp_val (.tuple #[.agg (arr 4 (limb (mm (am c d) (sm a b)))), .agg (arr 4 (limb (mm (sm c d) (am a b))))]) (by kernel_rfl) ?_
  have hS' := hS
  refine hK _ _ ?_
  clear hK K
  clear hS
  have hS := hS'
  clear hS'
  refine wpList_fr (a' := { tmps := List.toArray (z0 :: z1 :: z2 :: z3 :: z4 :: z5 :: z6 :: z7 :: (.pointer (some ⟨b8, 0, none⟩)) :: (.pointer (some ⟨b9, 0, none⟩)) :: (.pointer (some ⟨b10, 0, none⟩)) :: (.pointer (some ⟨b11, 0, none⟩)) :: z12 :: z13 :: z14 :: z15 :: z16 :: z17 :: z18 :: z19 :: z20 :: z21 :: z22 :: z23 :: z24 :: z25 :: z26 :: z27 :: z28 :: z29 :: z30 :: z31 :: z32 :: z33 :: z34 :: z35 :: z36 :: z37 :: (.tuple #[.agg (arr 4 (limb (mm (am c d) (sm a b)))), .agg (arr 4 (limb (mm (sm c d) (am a b))))]) :: (.agg (arr 4 (limb a))) :: (.agg (arr 4 (limb b))) :: (.agg (arr 4 (limb c))) :: (.agg (arr 4 (limb d))) :: (.tuple #[.agg (arr 4 (limb (mm (am c d) (sm a b)))), .agg (arr 4 (limb (mm (sm c d) (am a b))))]) :: z44 :: z45 :: zz), defers := [] }) (by kernel_rfl) ?_
  refine wpList_plain rfl (fun K hK => ?_)
  refine wp_val (.agg (arr 4 (limb (mm (am c d) (sm a b))))) (by kernel_rfl) ?_
  have hS' := hS
  refine hK _ _ ?_
  clear hK K
  clear hS
  have hS := hS'
  clear hS'
  refine wpList_fr (a' := { tmps := List.toArray (z0 :: z1 :: z2 :: z3 :: z4 :: z5 :: z6 :: z7 :: (.pointer (some ⟨b8, 0, none⟩)) :: (.pointer (some ⟨b9, 0, none⟩)) :: (.pointer (some ⟨b10, 0, none⟩)) :: (.pointer (some ⟨b11, 0, none⟩)) :: z12 :: z13 :: z14 :: z15 :: z16 :: z17 :: z18 :: z19 :: z20 :: z21 :: z22 :: z23 :: z24 :: z25 :: z26 :: z27 :: z28 :: z29 :: z30 :: z31 :: z32 :: z33 :: z34 :: z35 :: z36 :: z37 :: (.tuple #[.agg (arr 4 (limb (mm (am c d) (sm a b)))), .agg (arr 4 (limb (mm (sm c d) (am a b))))]) :: (.agg (arr 4 (limb a))) :: (.agg (arr 4 (limb b))) :: (.agg (arr 4 (limb c))) :: (.agg (arr 4 (limb d))) :: (.tuple #[.agg (arr 4 (limb (mm (am c d) (sm a b)))), .agg (arr 4 (limb (mm (sm c d) (am a b))))]) :: (.agg (arr 4 (limb (mm (am c d) (sm a b))))) :: z45 :: zz), defers := [] }) (by kernel_rfl) ?_
  refine wpList_plain rfl (fun K hK => ?_)
  refine wp_val (.agg (arr 4 (limb (mm (sm c d) (am a b))))) (by kernel_rfl) ?_
  have hS' := hS
  refine hK _ _ ?_
  clear hK K
  clear hS
  have hS := hS'
  clear hS'
  refine wpList_fr (a' := { tmps := List.toArray (z0 :: z1 :: z2 :: z3 :: z4 :: z5 :: z6 :: z7 :: (.pointer (some ⟨b8, 0, none⟩)) :: (.pointer (some ⟨b9, 0, none⟩)) :: (.pointer (some ⟨b10, 0, none⟩)) :: (.pointer (some ⟨b11, 0, none⟩)) :: z12 :: z13 :: z14 :: z15 :: z16 :: z17 :: z18 :: z19 :: z20 :: z21 :: z22 :: z23 :: z24 :: z25 :: z26 :: z27 :: z28 :: z29 :: z30 :: z31 :: z32 :: z33 :: z34 :: z35 :: z36 :: z37 :: (.tuple #[.agg (arr 4 (limb (mm (am c d) (sm a b)))), .agg (arr 4 (limb (mm (sm c d) (am a b))))]) :: (.agg (arr 4 (limb a))) :: (.agg (arr 4 (limb b))) :: (.agg (arr 4 (limb c))) :: (.agg (arr 4 (limb d))) :: (.tuple #[.agg (arr 4 (limb (mm (am c d) (sm a b)))), .agg (arr 4 (limb (mm (sm c d) (am a b))))]) :: (.agg (arr 4 (limb (mm (am c d) (sm a b))))) :: (.agg (arr 4 (limb (mm (sm c d) (am a b))))) :: zz), defers := [] }) (by kernel_rfl) ?_
  refine wpList_plain rfl (fun K hK => ?_)
  refine wp_new _ 32 (alloc_fe _ _ _ rfl) ?_
  intro n15 w8 eb Bn15 hbw
  have hS' := hS.call hbw
  refine hK _ _ ?_
  clear hK K
  have qgn15 : u.heap.size ≤ n15 := (by rw [eb]; exact hS.size)
  have qBn15 : Blk w8 n15 (arr 4 (fun _ => 0)) 32 := Bn15
  clear hS
  have gn15 := qgn15
  have Bn15 := qBn15
  have hS := hS'
  clear hS' qgn15 qBn15
  refine wpList_fr (a' := { tmps := List.toArray (z0 :: z1 :: z2 :: z3 :: z4 :: z5 :: z6 :: z7 :: (.pointer (some ⟨b8, 0, none⟩)) :: (.pointer (some ⟨b9, 0, none⟩)) :: (.pointer (some ⟨b10, 0, none⟩)) :: (.pointer (some ⟨b11, 0, none⟩)) :: z12 :: z13 :: z14 :: (.pointer (some ⟨n15, 0, none⟩)) :: z16 :: z17 :: z18 :: z19 :: z20 :: z21 :: z22 :: z23 :: z24 :: z25 :: z26 :: z27 :: z28 :: z29 :: z30 :: z31 :: z32 :: z33 :: z34 :: z35 :: z36 :: z37 :: (.tuple #[.agg (arr 4 (limb (mm (am c d) (sm a b)))), .agg (arr 4 (limb (mm (sm c d) (am a b))))]) :: (.agg (arr 4 (limb a))) :: (.agg (arr 4 (limb b))) :: (.agg (arr 4 (limb c))) :: (.agg (arr 4 (limb d))) :: (.tuple #[.agg (arr 4 (limb (mm (am c d) (sm a b)))), .agg (arr 4 (limb (mm (sm c d) (am a b))))]) :: (.agg (arr 4 (limb (mm (am c d) (sm a b))))) :: (.agg (arr 4 (limb (mm (sm c d) (am a b))))) :: zz), defers := [] }) (by kernel_rfl) ?_
  refine wpList_plain rfl (fun K hK => ?_)
  refine wp_new _ 32 (alloc_fe _ _ _ rfl) ?_
  intro n16 w9 eb Bn16 hbw
  have hS' := hS.call hbw
  refine hK _ _ ?_
  clear hK K
  have qgn15 : u.heap.size ≤ n15 := gn15
  have qBn15 : Blk w9 n15 (arr 4 (fun _ => 0)) 32 := (Bn15.call hbw)
  have qgn16 : u.heap.size ≤ n16 := (by rw [eb]; exact hS.size)
  have qBn16 : Blk w9 n16 (arr 4 (fun _ => 0)) 32 := Bn16
  have qen15n16 : n15 ≠ n16 := (by rw [eb]; exact Nat.ne_of_lt Bn15.lt)
  clear hS gn15 Bn15
  have gn15 := qgn15
  have Bn15 := qBn15
  have gn16 := qgn16
  have Bn16 := qBn16
  have en15n16 := qen15n16
  have hS := hS'
  clear hS' qgn15 qBn15 qgn16 qBn16 qen15n16
  refine wpList_fr (a' := { tmps := List.toArray (z0 :: z1 :: z2 :: z3 :: z4 :: z5 :: z6 :: z7 :: (.pointer (some ⟨b8, 0, none⟩)) :: (.pointer (some ⟨b9, 0, none⟩)) :: (.pointer (some ⟨b10, 0, none⟩)) :: (.pointer (some ⟨b11, 0, none⟩)) :: z12 :: z13 :: z14 :: (.pointer (some ⟨n15, 0, none⟩)) :: (.pointer (some ⟨n16, 0, none⟩)) :: z17 :: z18 :: z19 :: z20 :: z21 :: z22 :: z23 :: z24 :: z25 :: z26 :: z27 :: z28 :: z29 :: z30 :: z31 :: z32 :: z33 :: z34 :: z35 :: z36 :: z37 :: (.tuple #[.agg (arr 4 (limb (mm (am c d) (sm a b)))), .agg (arr 4 (limb (mm (sm c d) (am a b))))]) :: (.agg (arr 4 (limb a))) :: (.agg (arr 4 (limb b))) :: (.agg (arr 4 (limb c))) :: (.agg (arr 4 (limb d))) :: (.tuple #[.agg (arr 4 (limb (mm (am c d) (sm a b)))), .agg (arr 4 (limb (mm (sm c d) (am a b))))]) :: (.agg (arr 4 (limb (mm (am c d) (sm a b))))) :: (.agg (arr 4 (limb (mm (sm c d) (am a b))))) :: zz), defers := [] }) (by kernel_rfl) ?_
  refine wpList_plain rfl (fun K hK => ?_)
  refine wp_store_row 32 _ _ rfl n15 (arr 4 (limb (mm (am c d) (sm a b)))) (by kernel_rfl) (by kernel_rfl) 32 _ Bn15 (size_fe _) (by rw [arr_size, arr_size]) (one_fe _) ?_
  have hS' := hS.new gn15 (arr 4 (limb (mm (am c d) (sm a b))))
  refine hK _ _ ?_
  clear hK K
  have qgn15 : u.heap.size ≤ n15 := gn15
  have qBn15 : Blk (w9.setRow n15 (arr 4 (limb (mm (am c d) (sm a b))))) n15 (arr 4 (limb (mm (am c d) (sm a b)))) 32 := (Bn15.row (arr 4 (limb (mm (am c d) (sm a b)))))
  have qgn16 : u.heap.size ≤ n16 := gn16
  have qBn16 : Blk (w9.setRow n15 (arr 4 (limb (mm (am c d) (sm a b))))) n16 (arr 4 (fun _ => 0)) 32 := (Bn16.rowOther (arr 4 (limb (mm (am c d) (sm a b)))) en15n16)
  have qen15n16 : n15 ≠ n16 := en15n16
  clear hS gn15 Bn15 gn16 Bn16 en15n16
  have gn15 := qgn15
  have Bn15 := qBn15
  have gn16 := qgn16
  have Bn16 := qBn16
  have en15n16 := qen15n16
  have hS := hS'
  clear hS' qgn15 qBn15 qgn16 qBn16 qen15n16
  refine wpList_fr (a' := { tmps := List.toArray (z0 :: z1 :: z2 :: z3 :: z4 :: z5 :: z6 :: z7 :: (.pointer (some ⟨b8, 0, none⟩)) :: (.pointer (some ⟨b9, 0, none⟩)) :: (.pointer (some ⟨b10, 0, none⟩)) :: (.pointer (some ⟨b11, 0, none⟩)) :: z12 :: z13 :: z14 :: (.pointer (some ⟨n15, 0, none⟩)) :: (.pointer (some ⟨n16, 0, none⟩)) :: z17 :: z18 :: z19 :: z20 :: z21 :: z22 :: z23 :: z24 :: z25 :: z26 :: z27 :: z28 :: z29 :: z30 :: z31 :: z32 :: z33 :: z34 :: z35 :: z36 :: z37 :: (.tuple #[.agg (arr 4 (limb (mm (am c d) (sm a b)))), .agg (arr 4 (limb (mm (sm c d) (am a b))))]) :: (.agg (arr 4 (limb a))) :: (.agg (arr 4 (limb b))) :: (.agg (arr 4 (limb c))) :: (.agg (arr 4 (limb d))) :: (.tuple #[.agg (arr 4 (limb (mm (am c d) (sm a b)))), .agg (arr 4 (limb (mm (sm c d) (am a b))))]) :: (.agg (arr 4 (limb (mm (am c d) (sm a b))))) :: (.agg (arr 4 (limb (mm (sm c d) (am a b))))) :: zz), defers := [] }) (by kernel_rfl) ?_
  generalize (w9.setRow n15 (arr 4 (limb (mm (am c d) (sm a b))))) = w10 at *
  refine wpList_plain rfl (fun K hK => ?_)
  refine wp_store_row 32 _ _ rfl n16 (arr 4 (limb (mm (sm c d) (am a b)))) (by kernel_rfl) (by kernel_rfl) 32 _ Bn16 (size_fe _) (by rw [arr_size, arr_size]) (one_fe _) ?_
  have hS' := hS.new gn16 (arr 4 (limb (mm (sm c d) (am a b))))
  refine hK _ _ ?_
  clear hK K
  have qgn15 : u.heap.size ≤ n15 := gn15
  have qBn15 : Blk (w10.setRow n16 (arr 4 (limb (mm (sm c d) (am a b))))) n15 (arr 4 (limb (mm (am c d) (sm a b)))) 32 := (Bn15.rowOther (arr 4 (limb (mm (sm c d) (am a b)))) (Ne.symm en15n16))
  have qgn16 : u.heap.size ≤ n16 := gn16
  have qBn16 : Blk (w10.setRow n16 (arr 4 (limb (mm (sm c d) (am a b))))) n16 (arr 4 (limb (mm (sm c d) (am a b)))) 32 := (Bn16.row (arr 4 (limb (mm (sm c d) (am a b)))))
  have qen15n16 : n15 ≠ n16 := en15n16
  clear hS gn15 Bn15 gn16 Bn16 en15n16
  have gn15 := qgn15
  have Bn15 := qBn15
  have gn16 := qgn16
  have Bn16 := qBn16
  have en15n16 := qen15n16
  have hS := hS'
  clear hS' qgn15 qBn15 qgn16 qBn16 qen15n16
  refine wpList_fr (a' := { tmps := List.toArray (z0 :: z1 :: z2 :: z3 :: z4 :: z5 :: z6 :: z7 :: (.pointer (some ⟨b8, 0, none⟩)) :: (.pointer (some ⟨b9, 0, none⟩)) :: (.pointer (some ⟨b10, 0, none⟩)) :: (.pointer (some ⟨b11, 0, none⟩)) :: z12 :: z13 :: z14 :: (.pointer (some ⟨n15, 0, none⟩)) :: (.pointer (some ⟨n16, 0, none⟩)) :: z17 :: z18 :: z19 :: z20 :: z21 :: z22 :: z23 :: z24 :: z25 :: z26 :: z27 :: z28 :: z29 :: z30 :: z31 :: z32 :: z33 :: z34 :: z35 :: z36 :: z37 :: (.tuple #[.agg (arr 4 (limb (mm (am c d) (sm a b)))), .agg (arr 4 (limb (mm (sm c d) (am a b))))]) :: (.agg (arr 4 (limb a))) :: (.agg (arr 4 (limb b))) :: (.agg (arr 4 (limb c))) :: (.agg (arr 4 (limb d))) :: (.tuple #[.agg (arr 4 (limb (mm (am c d) (sm a b)))), .agg (arr 4 (limb (mm (sm c d) (am a b))))]) :: (.agg (arr 4 (limb (mm (am c d) (sm a b))))) :: (.agg (arr 4 (limb (mm (sm c d) (am a b))))) :: zz), defers := [] }) (by kernel_rfl) ?_
  generalize (w10.setRow n16 (arr 4 (limb (mm (sm c d) (am a b))))) = w11 at *
  refine wpList_nil ?_
  exact H n15 n16 w11 hS gn15 Bn15 gn16 Bn16 en15n16
def mu11Op0 : Oper := { dst := some 47, op := Op.load 32 (Operand.tmp 8), type := 32, pos := "ladder.go:23", after := #[], guard := none }
def mu11Op1 : Oper := { dst := some 48, op := Op.load 32 (Operand.tmp 9), type := 32, pos := "ladder.go:23", after := #[], guard := none }
def mu11Op2 : Oper := { dst := some 49, op := Op.call { callee := Callee.value (Operand.func 22), args := #[Operand.tmp 47, Operand.tmp 48], argTypes := #[32, 32] }, type := 42, pos := "ladder.go:23", after := #[{ on := 0, ground := Ground.data }, { on := 1, ground := Ground.data }], guard := none }
def mu11Op3 : Oper := { dst := some 46, op := Op.move (Operand.tmp 49), type := 42, pos := "ladder.go:23", after := #[{ on := 2, ground := Ground.data }], guard := none }
def mu11Op4 : Oper := { dst := some 50, op := Op.extract (Operand.tmp 46) 0, type := 32, pos := "ladder.go:23", after := #[{ on := 3, ground := Ground.data }], guard := none }
def mu11Op5 : Oper := { dst := some 51, op := Op.extract (Operand.tmp 46) 1, type := 32, pos := "ladder.go:23", after := #[{ on := 3, ground := Ground.data }, { on := 6, ground := Ground.gcOnly Departure.lateStores }], guard := none }
def mu11Op6 : Oper := { dst := none, op := Op.store 32 (Operand.tmp 8) (Operand.tmp 50), type := 0, pos := "ladder.go:23", after := #[{ on := 4, ground := Ground.data }, { on := 2, ground := Ground.chain }, { on := 0, ground := Ground.phase }, { on := 1, ground := Ground.phase }, { on := 2, ground := Ground.phase }, { on := 3, ground := Ground.phase }, { on := 4, ground := Ground.phase }, { on := 5, ground := Ground.textOnly Departure.lateStores }], guard := none }
def mu11Op7 : Oper := { dst := none, op := Op.store 32 (Operand.tmp 9) (Operand.tmp 51), type := 0, pos := "ladder.go:23", after := #[{ on := 5, ground := Ground.data }, { on := 6, ground := Ground.chain }, { on := 0, ground := Ground.phase }, { on := 1, ground := Ground.phase }, { on := 2, ground := Ground.phase }, { on := 3, ground := Ground.phase }, { on := 4, ground := Ground.phase }, { on := 5, ground := Ground.phase }, { on := 6, ground := Ground.phase }], guard := none }
def mu11Ops : Array Oper := #[mu11Op0, mu11Op1, mu11Op2, mu11Op3, mu11Op4, mu11Op5, mu11Op6, mu11Op7]
set_option maxRecDepth 100000 in
set_option maxHeartbeats 2000000 in
theorem mu11_region (Q : Exit → Act → World → Prop) (hQ : ∀ c a w n v, Q (.panic c) (a.put (some n) v) w → Q (.panic c) a w) (u : World) (z0 z1 z2 z3 z4 z5 z6 z7 z10 z11 z12 z13 z14 z15 z16 z17 z18 z19 z20 z21 z22 z23 z24 z25 z26 z27 z28 z29 z30 z31 z32 z33 z34 z35 z36 z37 z38 z39 z40 z41 z42 z43 z44 z45 z46 z47 z48 z49 z50 z51 : Value) (zz : List Value) (b8 b9 : Nat) (a b s t e : Nat) (ha : a < pP) (hb : b < pP) (es : s = mm (am a b) (am a b)) (et : t = mm (sm a b) (sm a b)) (ee : e = sm s t) (hb8 : Blk u b8 (arr 4 (limb a)) 32) (hb9 : Blk u b9 (arr 4 (limb b)) 32) (eb8b9 : b8 ≠ b9) (H : ∀ (w : World), Kp [b8, b9] u w → Blk w b8 (arr 4 (limb (mm s t))) 32 → Blk w b9 (arr 4 (limb (mm e (am s (mm 121665 e))))) 32 → Q .normal { tmps := List.toArray (z0 :: z1 :: z2 :: z3 :: z4 :: z5 :: z6 :: z7 :: (.pointer (some ⟨b8, 0, none⟩)) :: (.pointer (some ⟨b9, 0, none⟩)) :: z10 :: z11 :: z12 :: z13 :: z14 :: z15 :: z16 :: z17 :: z18 :: z19 :: z20 :: z21 :: z22 :: z23 :: z24 :: z25 :: z26 :: z27 :: z28 :: z29 :: z30 :: z31 :: z32 :: z33 :: z34 :: z35 :: z36 :: z37 :: z38 :: z39 :: z40 :: z41 :: z42 :: z43 :: z44 :: z45 :: (.tuple #[.agg (arr 4 (limb (mm s t))), .agg (arr 4 (limb (mm e (am s (mm 121665 e)))))]) :: (.agg (arr 4 (limb a))) :: (.agg (arr 4 (limb b))) :: (.tuple #[.agg (arr 4 (limb (mm s t))), .agg (arr 4 (limb (mm e (am s (mm 121665 e)))))]) :: (.agg (arr 4 (limb (mm s t)))) :: (.agg (arr 4 (limb (mm e (am s (mm 121665 e)))))) :: zz), defers := [] } w) :
    (Code.region 11 mu11Ops false).wp Try.prog Q { tmps := List.toArray (z0 :: z1 :: z2 :: z3 :: z4 :: z5 :: z6 :: z7 :: (.pointer (some ⟨b8, 0, none⟩)) :: (.pointer (some ⟨b9, 0, none⟩)) :: z10 :: z11 :: z12 :: z13 :: z14 :: z15 :: z16 :: z17 :: z18 :: z19 :: z20 :: z21 :: z22 :: z23 :: z24 :: z25 :: z26 :: z27 :: z28 :: z29 :: z30 :: z31 :: z32 :: z33 :: z34 :: z35 :: z36 :: z37 :: z38 :: z39 :: z40 :: z41 :: z42 :: z43 :: z44 :: z45 :: z46 :: z47 :: z48 :: z49 :: z50 :: z51 :: zz), defers := [] } u := by
  have _ := hQ
  have _ := u
  have _ := z0
  have _ := z1
  have _ := z2
  have _ := z3
  have _ := z4
  have _ := z5
  have _ := z6
  have _ := z7
  have _ := z10
  have _ := z11
  have _ := z12
  have _ := z13
  have _ := z14
  have _ := z15
  have _ := z16
  have _ := z17
  have _ := z18
  have _ := z19
  have _ := z20
  have _ := z21
  have _ := z22
  have _ := z23
  have _ := z24
  have _ := z25
  have _ := z26
  have _ := z27
  have _ := z28
  have _ := z29
  have _ := z30
  have _ := z31
  have _ := z32
  have _ := z33
  have _ := z34
  have _ := z35
  have _ := z36
  have _ := z37
  have _ := z38
  have _ := z39
  have _ := z40
  have _ := z41
  have _ := z42
  have _ := z43
  have _ := z44
  have _ := z45
  have _ := z46
  have _ := z47
  have _ := z48
  have _ := z49
  have _ := z50
  have _ := z51
  have _ := zz
  have _ := b8
  have _ := b9
  have _ := a
  have _ := b
  have _ := s
  have _ := t
  have _ := e
  have _ := ha
  have _ := hb
  have _ := es
  have _ := et
  have _ := ee
  have _ := hb8
  have _ := hb9
  have _ := eb8b9
  refine wp_region_list (show wpList _ mu11Ops _ [mu11Op0, mu11Op1, mu11Op2, mu11Op3, mu11Op4, mu11Op5, mu11Op6, mu11Op7] _ _ from ?_)
  have hS : Kp [b8, b9] u u := Kp.refl _ u
  have Bb8 := hb8
  have Bb9 := hb9
  refine wpList_plain rfl (fun K hK => ?_)
  refine wp_load_row 32 _ rfl b8 (by kernel_rfl) 32 _ (0, 0) _ Bb8 Try.underlying32 rfl (size_fe _) ?_
  have hS' := hS
  refine hK _ _ ?_
  clear hK K
  have qBb8 : Blk u b8 (arr 4 (limb a)) 32 := Bb8
  have qBb9 : Blk u b9 (arr 4 (limb b)) 32 := Bb9
  clear hS Bb8 Bb9
  have Bb8 := qBb8
  have Bb9 := qBb9
  have hS := hS'
  clear hS' qBb8 qBb9
  refine wpList_fr (a' := { tmps := List.toArray (z0 :: z1 :: z2 :: z3 :: z4 :: z5 :: z6 :: z7 :: (.pointer (some ⟨b8, 0, none⟩)) :: (.pointer (some ⟨b9, 0, none⟩)) :: z10 :: z11 :: z12 :: z13 :: z14 :: z15 :: z16 :: z17 :: z18 :: z19 :: z20 :: z21 :: z22 :: z23 :: z24 :: z25 :: z26 :: z27 :: z28 :: z29 :: z30 :: z31 :: z32 :: z33 :: z34 :: z35 :: z36 :: z37 :: z38 :: z39 :: z40 :: z41 :: z42 :: z43 :: z44 :: z45 :: z46 :: (.agg (arr 4 (limb a))) :: z48 :: z49 :: z50 :: z51 :: zz), defers := [] }) (by kernel_rfl) ?_
  refine wpList_plain rfl (fun K hK => ?_)
  refine wp_load_row 32 _ rfl b9 (by kernel_rfl) 32 _ (0, 0) _ Bb9 Try.underlying32 rfl (size_fe _) ?_
  have hS' := hS
  refine hK _ _ ?_
  clear hK K
  have qBb8 : Blk u b8 (arr 4 (limb a)) 32 := Bb8
  have qBb9 : Blk u b9 (arr 4 (limb b)) 32 := Bb9
  clear hS Bb8 Bb9
  have Bb8 := qBb8
  have Bb9 := qBb9
  have hS := hS'
  clear hS' qBb8 qBb9
  refine wpList_fr (a' := { tmps := List.toArray (z0 :: z1 :: z2 :: z3 :: z4 :: z5 :: z6 :: z7 :: (.pointer (some ⟨b8, 0, none⟩)) :: (.pointer (some ⟨b9, 0, none⟩)) :: z10 :: z11 :: z12 :: z13 :: z14 :: z15 :: z16 :: z17 :: z18 :: z19 :: z20 :: z21 :: z22 :: z23 :: z24 :: z25 :: z26 :: z27 :: z28 :: z29 :: z30 :: z31 :: z32 :: z33 :: z34 :: z35 :: z36 :: z37 :: z38 :: z39 :: z40 :: z41 :: z42 :: z43 :: z44 :: z45 :: z46 :: (.agg (arr 4 (limb a))) :: (.agg (arr 4 (limb b))) :: z49 :: z50 :: z51 :: zz), defers := [] }) (by kernel_rfl) ?_
  refine wpList_plain rfl (fun K hK => ?_)
  refine wp_call_val 22 #[.agg (arr 4 (limb a)), .agg (arr 4 (limb b))] (by kernel_rfl) (.tuple #[.agg (arr 4 (limb (mm s t))), .agg (arr 4 (limb (mm e (am s (mm 121665 e)))))]) (doubled_c a b s t e _ ha hb es et ee) ?_
  intro w2 hbw
  have hS' := hS.call hbw
  refine hK _ _ ?_
  clear hK K
  have qBb8 : Blk w2 b8 (arr 4 (limb a)) 32 := (Bb8.call hbw)
  have qBb9 : Blk w2 b9 (arr 4 (limb b)) 32 := (Bb9.call hbw)
  clear hS Bb8 Bb9
  have Bb8 := qBb8
  have Bb9 := qBb9
  have hS := hS'
  clear hS' qBb8 qBb9
  refine wpList_fr (a' := { tmps := List.toArray (z0 :: z1 :: z2 :: z3 :: z4 :: z5 :: z6 :: z7 :: (.pointer (some ⟨b8, 0, none⟩)) :: (.pointer (some ⟨b9, 0, none⟩)) :: z10 :: z11 :: z12 :: z13 :: z14 :: z15 :: z16 :: z17 :: z18 :: z19 :: z20 :: z21 :: z22 :: z23 :: z24 :: z25 :: z26 :: z27 :: z28 :: z29 :: z30 :: z31 :: z32 :: z33 :: z34 :: z35 :: z36 :: z37 :: z38 :: z39 :: z40 :: z41 :: z42 :: z43 :: z44 :: z45 :: z46 :: (.agg (arr 4 (limb a))) :: (.agg (arr 4 (limb b))) :: (.tuple #[.agg (arr 4 (limb (mm s t))), .agg (arr 4 (limb (mm e (am s (mm 121665 e)))))]) :: z50 :: z51 :: zz), defers := [] }) (by kernel_rfl) ?_
  refine wpList_plain rfl (fun K hK => ?_)
  refine wp_val (.tuple #[.agg (arr 4 (limb (mm s t))), .agg (arr 4 (limb (mm e (am s (mm 121665 e)))))]) (by kernel_rfl) ?_
  have hS' := hS
  refine hK _ _ ?_
  clear hK K
  have qBb8 : Blk w2 b8 (arr 4 (limb a)) 32 := Bb8
  have qBb9 : Blk w2 b9 (arr 4 (limb b)) 32 := Bb9
  clear hS Bb8 Bb9
  have Bb8 := qBb8
  have Bb9 := qBb9
  have hS := hS'
  clear hS' qBb8 qBb9
  refine wpList_fr (a' := { tmps := List.toArray (z0 :: z1 :: z2 :: z3 :: z4 :: z5 :: z6 :: z7 :: (.pointer (some ⟨b8, 0, none⟩)) :: (.pointer (some ⟨b9, 0, none⟩)) :: z10 :: z11 :: z12 :: z13 :: z14 :: z15 :: z16 :: z17 :: z18 :: z19 :: z20 :: z21 :: z22 :: z23 :: z24 :: z25 :: z26 :: z27 :: z28 :: z29 :: z30 :: z31 :: z32 :: z33 :: z34 :: z35 :: z36 :: z37 :: z38 :: z39 :: z40 :: z41 :: z42 :: z43 :: z44 :: z45 :: (.tuple #[.agg (arr 4 (limb (mm s t))), .agg (arr 4 (limb (mm e (am s (mm 121665 e)))))]) :: (.agg (arr 4 (limb a))) :: (.agg (arr 4 (limb b))) :: (.tuple #[.agg (arr 4 (limb (mm s t))), .agg (arr 4 (limb (mm e (am s (mm 121665 e)))))]) :: z50 :: z51 :: zz), defers := [] }) (by kernel_rfl) ?_
  refine wpList_plain rfl (fun K hK => ?_)
  refine wp_val (.agg (arr 4 (limb (mm s t)))) (by kernel_rfl) ?_
  have hS' := hS
  refine hK _ _ ?_
  clear hK K
  have qBb8 : Blk w2 b8 (arr 4 (limb a)) 32 := Bb8
  have qBb9 : Blk w2 b9 (arr 4 (limb b)) 32 := Bb9
  clear hS Bb8 Bb9
  have Bb8 := qBb8
  have Bb9 := qBb9
  have hS := hS'
  clear hS' qBb8 qBb9
  refine wpList_fr (a' := { tmps := List.toArray (z0 :: z1 :: z2 :: z3 :: z4 :: z5 :: z6 :: z7 :: (.pointer (some ⟨b8, 0, none⟩)) :: (.pointer (some ⟨b9, 0, none⟩)) :: z10 :: z11 :: z12 :: z13 :: z14 :: z15 :: z16 :: z17 :: z18 :: z19 :: z20 :: z21 :: z22 :: z23 :: z24 :: z25 :: z26 :: z27 :: z28 :: z29 :: z30 :: z31 :: z32 :: z33 :: z34 :: z35 :: z36 :: z37 :: z38 :: z39 :: z40 :: z41 :: z42 :: z43 :: z44 :: z45 :: (.tuple #[.agg (arr 4 (limb (mm s t))), .agg (arr 4 (limb (mm e (am s (mm 121665 e)))))]) :: (.agg (arr 4 (limb a))) :: (.agg (arr 4 (limb b))) :: (.tuple #[.agg (arr 4 (limb (mm s t))), .agg (arr 4 (limb (mm e (am s (mm 121665 e)))))]) :: (.agg (arr 4 (limb (mm s t)))) :: z51 :: zz), defers := [] }) (by kernel_rfl) ?_
  refine wpList_plain rfl (fun K hK => ?_)
  refine wp_val (.agg (arr 4 (limb (mm e (am s (mm 121665 e)))))) (by kernel_rfl) ?_
  have hS' := hS
  refine hK _ _ ?_
  clear hK K
  have qBb8 : Blk w2 b8 (arr 4 (limb a)) 32 := Bb8
  have qBb9 : Blk w2 b9 (arr 4 (limb b)) 32 := Bb9
  clear hS Bb8 Bb9
  have Bb8 := qBb8
  have Bb9 := qBb9
  have hS := hS'
  clear hS' qBb8 qBb9
  refine wpList_fr (a' := { tmps := List.toArray (z0 :: z1 :: z2 :: z3 :: z4 :: z5 :: z6 :: z7 :: (.pointer (some ⟨b8, 0, none⟩)) :: (.pointer (some ⟨b9, 0, none⟩)) :: z10 :: z11 :: z12 :: z13 :: z14 :: z15 :: z16 :: z17 :: z18 :: z19 :: z20 :: z21 :: z22 :: z23 :: z24 :: z25 :: z26 :: z27 :: z28 :: z29 :: z30 :: z31 :: z32 :: z33 :: z34 :: z35 :: z36 :: z37 :: z38 :: z39 :: z40 :: z41 :: z42 :: z43 :: z44 :: z45 :: (.tuple #[.agg (arr 4 (limb (mm s t))), .agg (arr 4 (limb (mm e (am s (mm 121665 e)))))]) :: (.agg (arr 4 (limb a))) :: (.agg (arr 4 (limb b))) :: (.tuple #[.agg (arr 4 (limb (mm s t))), .agg (arr 4 (limb (mm e (am s (mm 121665 e)))))]) :: (.agg (arr 4 (limb (mm s t)))) :: (.agg (arr 4 (limb (mm e (am s (mm 121665 e)))))) :: zz), defers := [] }) (by kernel_rfl) ?_
  refine wpList_plain rfl (fun K hK => ?_)
  refine wp_store_row 32 _ _ rfl b8 (arr 4 (limb (mm s t))) (by kernel_rfl) (by kernel_rfl) 32 _ Bb8 (size_fe _) (by rw [arr_size, arr_size]) (one_fe _) ?_
  have hS' := hS.old (x := b8) (by simp) (arr 4 (limb (mm s t)))
  refine hK _ _ ?_
  clear hK K
  have qBb8 : Blk (w2.setRow b8 (arr 4 (limb (mm s t)))) b8 (arr 4 (limb (mm s t))) 32 := (Bb8.row (arr 4 (limb (mm s t))))
  have qBb9 : Blk (w2.setRow b8 (arr 4 (limb (mm s t)))) b9 (arr 4 (limb b)) 32 := (Bb9.rowOther (arr 4 (limb (mm s t))) eb8b9)
  clear hS Bb8 Bb9
  have Bb8 := qBb8
  have Bb9 := qBb9
  have hS := hS'
  clear hS' qBb8 qBb9
  refine wpList_fr (a' := { tmps := List.toArray (z0 :: z1 :: z2 :: z3 :: z4 :: z5 :: z6 :: z7 :: (.pointer (some ⟨b8, 0, none⟩)) :: (.pointer (some ⟨b9, 0, none⟩)) :: z10 :: z11 :: z12 :: z13 :: z14 :: z15 :: z16 :: z17 :: z18 :: z19 :: z20 :: z21 :: z22 :: z23 :: z24 :: z25 :: z26 :: z27 :: z28 :: z29 :: z30 :: z31 :: z32 :: z33 :: z34 :: z35 :: z36 :: z37 :: z38 :: z39 :: z40 :: z41 :: z42 :: z43 :: z44 :: z45 :: (.tuple #[.agg (arr 4 (limb (mm s t))), .agg (arr 4 (limb (mm e (am s (mm 121665 e)))))]) :: (.agg (arr 4 (limb a))) :: (.agg (arr 4 (limb b))) :: (.tuple #[.agg (arr 4 (limb (mm s t))), .agg (arr 4 (limb (mm e (am s (mm 121665 e)))))]) :: (.agg (arr 4 (limb (mm s t)))) :: (.agg (arr 4 (limb (mm e (am s (mm 121665 e)))))) :: zz), defers := [] }) (by kernel_rfl) ?_
  generalize (w2.setRow b8 (arr 4 (limb (mm s t)))) = w6 at *
  refine wpList_plain rfl (fun K hK => ?_)
  refine wp_store_row 32 _ _ rfl b9 (arr 4 (limb (mm e (am s (mm 121665 e))))) (by kernel_rfl) (by kernel_rfl) 32 _ Bb9 (size_fe _) (by rw [arr_size, arr_size]) (one_fe _) ?_
  have hS' := hS.old (x := b9) (by simp) (arr 4 (limb (mm e (am s (mm 121665 e)))))
  refine hK _ _ ?_
  clear hK K
  have qBb8 : Blk (w6.setRow b9 (arr 4 (limb (mm e (am s (mm 121665 e)))))) b8 (arr 4 (limb (mm s t))) 32 := (Bb8.rowOther (arr 4 (limb (mm e (am s (mm 121665 e))))) (Ne.symm eb8b9))
  have qBb9 : Blk (w6.setRow b9 (arr 4 (limb (mm e (am s (mm 121665 e)))))) b9 (arr 4 (limb (mm e (am s (mm 121665 e))))) 32 := (Bb9.row (arr 4 (limb (mm e (am s (mm 121665 e))))))
  clear hS Bb8 Bb9
  have Bb8 := qBb8
  have Bb9 := qBb9
  have hS := hS'
  clear hS' qBb8 qBb9
  refine wpList_fr (a' := { tmps := List.toArray (z0 :: z1 :: z2 :: z3 :: z4 :: z5 :: z6 :: z7 :: (.pointer (some ⟨b8, 0, none⟩)) :: (.pointer (some ⟨b9, 0, none⟩)) :: z10 :: z11 :: z12 :: z13 :: z14 :: z15 :: z16 :: z17 :: z18 :: z19 :: z20 :: z21 :: z22 :: z23 :: z24 :: z25 :: z26 :: z27 :: z28 :: z29 :: z30 :: z31 :: z32 :: z33 :: z34 :: z35 :: z36 :: z37 :: z38 :: z39 :: z40 :: z41 :: z42 :: z43 :: z44 :: z45 :: (.tuple #[.agg (arr 4 (limb (mm s t))), .agg (arr 4 (limb (mm e (am s (mm 121665 e)))))]) :: (.agg (arr 4 (limb a))) :: (.agg (arr 4 (limb b))) :: (.tuple #[.agg (arr 4 (limb (mm s t))), .agg (arr 4 (limb (mm e (am s (mm 121665 e)))))]) :: (.agg (arr 4 (limb (mm s t)))) :: (.agg (arr 4 (limb (mm e (am s (mm 121665 e)))))) :: zz), defers := [] }) (by kernel_rfl) ?_
  generalize (w6.setRow b9 (arr 4 (limb (mm e (am s (mm 121665 e)))))) = w7 at *
  refine wpList_nil ?_
  exact H  w7 hS Bb8 Bb9
def mu12Op0 : Oper := { dst := some 52, op := Op.load 32 (Operand.tmp 15), type := 32, pos := "ladder.go:24", after := #[], guard := none }
def mu12Op1 : Oper := { dst := some 53, op := Op.load 32 (Operand.tmp 16), type := 32, pos := "ladder.go:24", after := #[], guard := none }
def mu12Op2 : Oper := { dst := some 54, op := Op.call { callee := Callee.value (Operand.func 24), args := #[Operand.tmp 52, Operand.tmp 53], argTypes := #[32, 32] }, type := 32, pos := "ladder.go:24", after := #[{ on := 0, ground := Ground.data }, { on := 1, ground := Ground.data }], guard := none }
def mu12Op3 : Oper := { dst := some 55, op := Op.call { callee := Callee.value (Operand.func 23), args := #[Operand.tmp 54], argTypes := #[32] }, type := 32, pos := "ladder.go:24", after := #[{ on := 2, ground := Ground.data }, { on := 2, ground := Ground.chain }], guard := none }
def mu12Op4 : Oper := { dst := some 56, op := Op.load 32 (Operand.tmp 6), type := 32, pos := "ladder.go:24", after := #[], guard := none }
def mu12Op5 : Oper := { dst := some 57, op := Op.load 32 (Operand.tmp 15), type := 32, pos := "ladder.go:24", after := #[], guard := none }
def mu12Op6 : Oper := { dst := some 58, op := Op.load 32 (Operand.tmp 16), type := 32, pos := "ladder.go:24", after := #[], guard := none }
def mu12Op7 : Oper := { dst := some 59, op := Op.call { callee := Callee.value (Operand.func 26), args := #[Operand.tmp 57, Operand.tmp 58], argTypes := #[32, 32] }, type := 32, pos := "ladder.go:24", after := #[{ on := 5, ground := Ground.data }, { on := 6, ground := Ground.data }, { on := 3, ground := Ground.chain }], guard := none }
def mu12Op8 : Oper := { dst := some 60, op := Op.call { callee := Callee.value (Operand.func 23), args := #[Operand.tmp 59], argTypes := #[32] }, type := 32, pos := "ladder.go:24", after := #[{ on := 7, ground := Ground.data }, { on := 7, ground := Ground.chain }], guard := none }
def mu12Op9 : Oper := { dst := some 61, op := Op.call { callee := Callee.value (Operand.func 25), args := #[Operand.tmp 56, Operand.tmp 60], argTypes := #[32, 32] }, type := 32, pos := "ladder.go:24", after := #[{ on := 4, ground := Ground.data }, { on := 8, ground := Ground.data }, { on := 8, ground := Ground.chain }], guard := none }
def mu12Op10 : Oper := { dst := none, op := Op.store 32 (Operand.tmp 10) (Operand.tmp 55), type := 0, pos := "ladder.go:24", after := #[{ on := 3, ground := Ground.data }, { on := 9, ground := Ground.chain }, { on := 0, ground := Ground.phase }, { on := 1, ground := Ground.phase }, { on := 2, ground := Ground.phase }, { on := 3, ground := Ground.phase }, { on := 4, ground := Ground.textOnly Departure.lateStores }, { on := 5, ground := Ground.textOnly Departure.lateStores }, { on := 6, ground := Ground.textOnly Departure.lateStores }, { on := 7, ground := Ground.textOnly Departure.lateStoresUnsure }, { on := 8, ground := Ground.textOnly Departure.lateStoresUnsure }, { on := 9, ground := Ground.textOnly Departure.lateStoresUnsure }], guard := none }
def mu12Op11 : Oper := { dst := none, op := Op.store 32 (Operand.tmp 11) (Operand.tmp 61), type := 0, pos := "ladder.go:24", after := #[{ on := 9, ground := Ground.data }, { on := 10, ground := Ground.chain }, { on := 0, ground := Ground.phase }, { on := 1, ground := Ground.phase }, { on := 2, ground := Ground.phase }, { on := 3, ground := Ground.phase }, { on := 4, ground := Ground.phase }, { on := 5, ground := Ground.phase }, { on := 6, ground := Ground.phase }, { on := 7, ground := Ground.phase }, { on := 8, ground := Ground.phase }, { on := 9, ground := Ground.phase }, { on := 10, ground := Ground.phase }], guard := none }
def mu12Ops : Array Oper := #[mu12Op0, mu12Op1, mu12Op2, mu12Op3, mu12Op4, mu12Op5, mu12Op6, mu12Op7, mu12Op8, mu12Op9, mu12Op10, mu12Op11]
structure mu12C (Q : Exit → Act → World → Prop) (u : World) (z0 z1 z2 z3 z4 z5 z7 z8 z9 z12 z13 z14 z17 z18 z19 z20 z21 z22 z23 z24 z25 z26 z27 z28 z29 z30 z31 z32 z33 z34 z35 z36 z37 z38 z39 z40 z41 z42 z43 z44 z45 z46 z47 z48 z49 z50 z51 z52 z53 z54 z55 z56 z57 z58 z59 z60 z61 : Value) (zz : List Value) (b6 b10 b11 b15 b16 : Nat) (x y u0 c d : Nat) : Prop where
  hQ : ∀ c a w n v, Q (.panic c) (a.put (some n) v) w → Q (.panic c) a w
  hx : x < pP
  hy : y < pP
  hu0 : u0 < pP
  hb6 : Blk u b6 (arr 4 (limb u0)) 32
  nb6 : b6 ∉ ([b10, b11] : List Nat)
  hb10 : Blk u b10 (arr 4 (limb c)) 32
  hb11 : Blk u b11 (arr 4 (limb d)) 32
  hb15 : Blk u b15 (arr 4 (limb x)) 32
  nb15 : b15 ∉ ([b10, b11] : List Nat)
  hb16 : Blk u b16 (arr 4 (limb y)) 32
  nb16 : b16 ∉ ([b10, b11] : List Nat)
  eb10b11 : b10 ≠ b11
  H : ∀ (w : World), Kp [b10, b11] u w → Blk w b10 (arr 4 (limb (mm (am x y) (am x y)))) 32 → Blk w b11 (arr 4 (limb (mm u0 (mm (sm x y) (sm x y))))) 32 → Q .normal { tmps := List.toArray (z0 :: z1 :: z2 :: z3 :: z4 :: z5 :: (.pointer (some ⟨b6, 0, none⟩)) :: z7 :: z8 :: z9 :: (.pointer (some ⟨b10, 0, none⟩)) :: (.pointer (some ⟨b11, 0, none⟩)) :: z12 :: z13 :: z14 :: (.pointer (some ⟨b15, 0, none⟩)) :: (.pointer (some ⟨b16, 0, none⟩)) :: z17 :: z18 :: z19 :: z20 :: z21 :: z22 :: z23 :: z24 :: z25 :: z26 :: z27 :: z28 :: z29 :: z30 :: z31 :: z32 :: z33 :: z34 :: z35 :: z36 :: z37 :: z38 :: z39 :: z40 :: z41 :: z42 :: z43 :: z44 :: z45 :: z46 :: z47 :: z48 :: z49 :: z50 :: z51 :: (.agg (arr 4 (limb x))) :: (.agg (arr 4 (limb y))) :: (.agg (arr 4 (limb (am x y)))) :: (.agg (arr 4 (limb (mm (am x y) (am x y))))) :: (.agg (arr 4 (limb u0))) :: (.agg (arr 4 (limb x))) :: (.agg (arr 4 (limb y))) :: (.agg (arr 4 (limb (sm x y)))) :: (.agg (arr 4 (limb (mm (sm x y) (sm x y))))) :: (.agg (arr 4 (limb (mm u0 (mm (sm x y) (sm x y)))))) :: zz), defers := [] } w
section
variable {Q : Exit → Act → World → Prop} {u : World} {z0 z1 z2 z3 z4 z5 z7 z8 z9 z12 z13 z14 z17 z18 z19 z20 z21 z22 z23 z24 z25 z26 z27 z28 z29 z30 z31 z32 z33 z34 z35 z36 z37 z38 z39 z40 z41 z42 z43 z44 z45 z46 z47 z48 z49 z50 z51 z52 z53 z54 z55 z56 z57 z58 z59 z60 z61 : Value} {zz : List Value} {b6 b10 b11 b15 b16 : Nat} {x y u0 c d : Nat}
set_option maxRecDepth 100000 in
set_option maxHeartbeats 2000000 in
theorem mu12_0 (C : mu12C Q u z0 z1 z2 z3 z4 z5 z7 z8 z9 z12 z13 z14 z17 z18 z19 z20 z21 z22 z23 z24 z25 z26 z27 z28 z29 z30 z31 z32 z33 z34 z35 z36 z37 z38 z39 z40 z41 z42 z43 z44 z45 z46 z47 z48 z49 z50 z51 z52 z53 z54 z55 z56 z57 z58 z59 z60 z61 zz b6 b10 b11 b15 b16 x y u0 c d) (w : World) (hS : Kp [b10, b11] u w) (Bb10 : Blk w b10 (arr 4 (limb (mm (am x y) (am x y)))) 32) (Bb11 : Blk w b11 (arr 4 (limb (mm u0 (mm (sm x y) (sm x y))))) 32) :
    wpAnyH Try.prog .any mu12Ops Q (Kp [b10, b11] u) 0 (List.toArray (true :: true :: true :: true :: true :: true :: true :: true :: true :: true :: true :: true :: [])) { tmps := List.toArray (z0 :: z1 :: z2 :: z3 :: z4 :: z5 :: (.pointer (some ⟨b6, 0, none⟩)) :: z7 :: z8 :: z9 :: (.pointer (some ⟨b10, 0, none⟩)) :: (.pointer (some ⟨b11, 0, none⟩)) :: z12 :: z13 :: z14 :: (.pointer (some ⟨b15, 0, none⟩)) :: (.pointer (some ⟨b16, 0, none⟩)) :: z17 :: z18 :: z19 :: z20 :: z21 :: z22 :: z23 :: z24 :: z25 :: z26 :: z27 :: z28 :: z29 :: z30 :: z31 :: z32 :: z33 :: z34 :: z35 :: z36 :: z37 :: z38 :: z39 :: z40 :: z41 :: z42 :: z43 :: z44 :: z45 :: z46 :: z47 :: z48 :: z49 :: z50 :: z51 :: (.agg (arr 4 (limb x))) :: (.agg (arr 4 (limb y))) :: (.agg (arr 4 (limb (am x y)))) :: (.agg (arr 4 (limb (mm (am x y) (am x y))))) :: (.agg (arr 4 (limb u0))) :: (.agg (arr 4 (limb x))) :: (.agg (arr 4 (limb y))) :: (.agg (arr 4 (limb (sm x y)))) :: (.agg (arr 4 (limb (mm (sm x y) (sm x y))))) :: (.agg (arr 4 (limb (mm u0 (mm (sm x y) (sm x y)))))) :: zz), defers := [] } w := by
  exact wpAnyH_done (by kernel_rfl) (C.H  w hS Bb10 Bb11) _
set_option maxRecDepth 100000 in
set_option maxHeartbeats 2000000 in
theorem mu12_1 (C : mu12C Q u z0 z1 z2 z3 z4 z5 z7 z8 z9 z12 z13 z14 z17 z18 z19 z20 z21 z22 z23 z24 z25 z26 z27 z28 z29 z30 z31 z32 z33 z34 z35 z36 z37 z38 z39 z40 z41 z42 z43 z44 z45 z46 z47 z48 z49 z50 z51 z52 z53 z54 z55 z56 z57 z58 z59 z60 z61 zz b6 b10 b11 b15 b16 x y u0 c d) (w : World) (hS : Kp [b10, b11] u w) (Bb10 : Blk w b10 (arr 4 (limb (mm (am x y) (am x y)))) 32) (Bb11 : Blk w b11 (arr 4 (limb d)) 32) :
    wpAnyH Try.prog .any mu12Ops Q (Kp [b10, b11] u) 1 (List.toArray (true :: true :: true :: true :: true :: true :: true :: true :: true :: true :: true :: false :: [])) { tmps := List.toArray (z0 :: z1 :: z2 :: z3 :: z4 :: z5 :: (.pointer (some ⟨b6, 0, none⟩)) :: z7 :: z8 :: z9 :: (.pointer (some ⟨b10, 0, none⟩)) :: (.pointer (some ⟨b11, 0, none⟩)) :: z12 :: z13 :: z14 :: (.pointer (some ⟨b15, 0, none⟩)) :: (.pointer (some ⟨b16, 0, none⟩)) :: z17 :: z18 :: z19 :: z20 :: z21 :: z22 :: z23 :: z24 :: z25 :: z26 :: z27 :: z28 :: z29 :: z30 :: z31 :: z32 :: z33 :: z34 :: z35 :: z36 :: z37 :: z38 :: z39 :: z40 :: z41 :: z42 :: z43 :: z44 :: z45 :: z46 :: z47 :: z48 :: z49 :: z50 :: z51 :: (.agg (arr 4 (limb x))) :: (.agg (arr 4 (limb y))) :: (.agg (arr 4 (limb (am x y)))) :: (.agg (arr 4 (limb (mm (am x y) (am x y))))) :: (.agg (arr 4 (limb u0))) :: (.agg (arr 4 (limb x))) :: (.agg (arr 4 (limb y))) :: (.agg (arr 4 (limb (sm x y)))) :: (.agg (arr 4 (limb (mm (sm x y) (sm x y))))) :: (.agg (arr 4 (limb (mm u0 (mm (sm x y) (sm x y)))))) :: zz), defers := [] } w := by
  obtain ⟨hQ, hx, hy, hu0, hb6, nb6, hb10, hb11, hb15, nb15, hb16, nb16, eb10b11, _⟩ := id C
  refine wpAnyH_ready (rs := [11]) (by kernel_rfl) (by simp) ?_
  refine AllReadyH.cons (o := mu12Op11) rfl (fun K hK => ?_) AllReadyH.nil
  rw [if_pos (by rfl)]
  refine wp_store_row 32 _ _ rfl b11 (arr 4 (limb (mm u0 (mm (sm x y) (sm x y))))) (by kernel_rfl) (by kernel_rfl) 32 _ Bb11 (size_fe _) (by rw [arr_size, arr_size]) (one_fe _) ?_
  have hS' := hS.old (x := b11) (by simp) (arr 4 (limb (mm u0 (mm (sm x y) (sm x y)))))
  refine hK.out _ _ hS' (fun _ => ?_)
  exact wpAnyH_at (by kernel_rfl) (by kernel_rfl) (mu12_0 C (w.setRow b11 (arr 4 (limb (mm u0 (mm (sm x y) (sm x y)))))) hS' (Bb10.rowOther (arr 4 (limb (mm u0 (mm (sm x y) (sm x y))))) (Ne.symm eb10b11)) (Bb11.row (arr 4 (limb (mm u0 (mm (sm x y) (sm x y)))))))
set_option maxRecDepth 100000 in
set_option maxHeartbeats 2000000 in
theorem mu12_2 (C : mu12C Q u z0 z1 z2 z3 z4 z5 z7 z8 z9 z12 z13 z14 z17 z18 z19 z20 z21 z22 z23 z24 z25 z26 z27 z28 z29 z30 z31 z32 z33 z34 z35 z36 z37 z38 z39 z40 z41 z42 z43 z44 z45 z46 z47 z48 z49 z50 z51 z52 z53 z54 z55 z56 z57 z58 z59 z60 z61 zz b6 b10 b11 b15 b16 x y u0 c d) (w : World) (hS : Kp [b10, b11] u w) (Bb10 : Blk w b10 (arr 4 (limb c)) 32) (Bb11 : Blk w b11 (arr 4 (limb d)) 32) :
    wpAnyH Try.prog .any mu12Ops Q (Kp [b10, b11] u) 2 (List.toArray (true :: true :: true :: true :: true :: true :: true :: true :: true :: true :: false :: false :: [])) { tmps := List.toArray (z0 :: z1 :: z2 :: z3 :: z4 :: z5 :: (.pointer (some ⟨b6, 0, none⟩)) :: z7 :: z8 :: z9 :: (.pointer (some ⟨b10, 0, none⟩)) :: (.pointer (some ⟨b11, 0, none⟩)) :: z12 :: z13 :: z14 :: (.pointer (some ⟨b15, 0, none⟩)) :: (.pointer (some ⟨b16, 0, none⟩)) :: z17 :: z18 :: z19 :: z20 :: z21 :: z22 :: z23 :: z24 :: z25 :: z26 :: z27 :: z28 :: z29 :: z30 :: z31 :: z32 :: z33 :: z34 :: z35 :: z36 :: z37 :: z38 :: z39 :: z40 :: z41 :: z42 :: z43 :: z44 :: z45 :: z46 :: z47 :: z48 :: z49 :: z50 :: z51 :: (.agg (arr 4 (limb x))) :: (.agg (arr 4 (limb y))) :: (.agg (arr 4 (limb (am x y)))) :: (.agg (arr 4 (limb (mm (am x y) (am x y))))) :: (.agg (arr 4 (limb u0))) :: (.agg (arr 4 (limb x))) :: (.agg (arr 4 (limb y))) :: (.agg (arr 4 (limb (sm x y)))) :: (.agg (arr 4 (limb (mm (sm x y) (sm x y))))) :: (.agg (arr 4 (limb (mm u0 (mm (sm x y) (sm x y)))))) :: zz), defers := [] } w := by
  obtain ⟨hQ, hx, hy, hu0, hb6, nb6, hb10, hb11, hb15, nb15, hb16, nb16, eb10b11, _⟩ := id C
  refine wpAnyH_ready (rs := [10]) (by kernel_rfl) (by simp) ?_
  refine AllReadyH.cons (o := mu12Op10) rfl (fun K hK => ?_) AllReadyH.nil
  rw [if_pos (by rfl)]
  refine wp_store_row 32 _ _ rfl b10 (arr 4 (limb (mm (am x y) (am x y)))) (by kernel_rfl) (by kernel_rfl) 32 _ Bb10 (size_fe _) (by rw [arr_size, arr_size]) (one_fe _) ?_
  have hS' := hS.old (x := b10) (by simp) (arr 4 (limb (mm (am x y) (am x y))))
  refine hK.out _ _ hS' (fun _ => ?_)
  exact wpAnyH_at (by kernel_rfl) (by kernel_rfl) (mu12_1 C (w.setRow b10 (arr 4 (limb (mm (am x y) (am x y))))) hS' (Bb10.row (arr 4 (limb (mm (am x y) (am x y))))) (Bb11.rowOther (arr 4 (limb (mm (am x y) (am x y)))) eb10b11))
set_option maxRecDepth 100000 in
set_option maxHeartbeats 2000000 in
theorem mu12_3 (C : mu12C Q u z0 z1 z2 z3 z4 z5 z7 z8 z9 z12 z13 z14 z17 z18 z19 z20 z21 z22 z23 z24 z25 z26 z27 z28 z29 z30 z31 z32 z33 z34 z35 z36 z37 z38 z39 z40 z41 z42 z43 z44 z45 z46 z47 z48 z49 z50 z51 z52 z53 z54 z55 z56 z57 z58 z59 z60 z61 zz b6 b10 b11 b15 b16 x y u0 c d) (w : World) (hS : Kp [b10, b11] u w) (Bb10 : Blk w b10 (arr 4 (limb c)) 32) (Bb11 : Blk w b11 (arr 4 (limb d)) 32) :
    wpAnyH Try.prog .any mu12Ops Q (Kp [b10, b11] u) 3 (List.toArray (true :: true :: true :: true :: true :: true :: true :: true :: true :: false :: false :: false :: [])) { tmps := List.toArray (z0 :: z1 :: z2 :: z3 :: z4 :: z5 :: (.pointer (some ⟨b6, 0, none⟩)) :: z7 :: z8 :: z9 :: (.pointer (some ⟨b10, 0, none⟩)) :: (.pointer (some ⟨b11, 0, none⟩)) :: z12 :: z13 :: z14 :: (.pointer (some ⟨b15, 0, none⟩)) :: (.pointer (some ⟨b16, 0, none⟩)) :: z17 :: z18 :: z19 :: z20 :: z21 :: z22 :: z23 :: z24 :: z25 :: z26 :: z27 :: z28 :: z29 :: z30 :: z31 :: z32 :: z33 :: z34 :: z35 :: z36 :: z37 :: z38 :: z39 :: z40 :: z41 :: z42 :: z43 :: z44 :: z45 :: z46 :: z47 :: z48 :: z49 :: z50 :: z51 :: (.agg (arr 4 (limb x))) :: (.agg (arr 4 (limb y))) :: (.agg (arr 4 (limb (am x y)))) :: (.agg (arr 4 (limb (mm (am x y) (am x y))))) :: (.agg (arr 4 (limb u0))) :: (.agg (arr 4 (limb x))) :: (.agg (arr 4 (limb y))) :: (.agg (arr 4 (limb (sm x y)))) :: (.agg (arr 4 (limb (mm (sm x y) (sm x y))))) :: z61 :: zz), defers := [] } w := by
  obtain ⟨hQ, hx, hy, hu0, hb6, nb6, hb10, hb11, hb15, nb15, hb16, nb16, eb10b11, _⟩ := id C
  refine wpAnyH_ready (rs := [9]) (by kernel_rfl) (by simp) ?_
  refine AllReadyH.cons (o := mu12Op9) rfl (fun K hK => ?_) AllReadyH.nil
  rw [if_pos (by rfl)]
  refine wp_call_val 25 #[.agg (arr 4 (limb u0)), .agg (arr 4 (limb (mm (sm x y) (sm x y))))] (by kernel_rfl) (.agg (arr 4 (limb (mm u0 (mm (sm x y) (sm x y)))))) (mul_c u0 (mm (sm x y) (sm x y)) _ hu0 (mm_lt _ _)) ?_
  intro w' hbw
  have hS' := hS.call hbw
  refine hK.out _ _ hS' (fun _ => ?_)
  exact wpAnyH_at (by kernel_rfl) (by kernel_rfl) (mu12_2 C w' hS' (Bb10.call hbw) (Bb11.call hbw))
set_option maxRecDepth 100000 in
set_option maxHeartbeats 2000000 in
theorem mu12_4 (C : mu12C Q u z0 z1 z2 z3 z4 z5 z7 z8 z9 z12 z13 z14 z17 z18 z19 z20 z21 z22 z23 z24 z25 z26 z27 z28 z29 z30 z31 z32 z33 z34 z35 z36 z37 z38 z39 z40 z41 z42 z43 z44 z45 z46 z47 z48 z49 z50 z51 z52 z53 z54 z55 z56 z57 z58 z59 z60 z61 zz b6 b10 b11 b15 b16 x y u0 c d) (w : World) (hS : Kp [b10, b11] u w) (Bb10 : Blk w b10 (arr 4 (limb c)) 32) (Bb11 : Blk w b11 (arr 4 (limb d)) 32) :
    wpAnyH Try.prog .any mu12Ops Q (Kp [b10, b11] u) 4 (List.toArray (true :: true :: true :: true :: true :: true :: true :: true :: false :: false :: false :: false :: [])) { tmps := List.toArray (z0 :: z1 :: z2 :: z3 :: z4 :: z5 :: (.pointer (some ⟨b6, 0, none⟩)) :: z7 :: z8 :: z9 :: (.pointer (some ⟨b10, 0, none⟩)) :: (.pointer (some ⟨b11, 0, none⟩)) :: z12 :: z13 :: z14 :: (.pointer (some ⟨b15, 0, none⟩)) :: (.pointer (some ⟨b16, 0, none⟩)) :: z17 :: z18 :: z19 :: z20 :: z21 :: z22 :: z23 :: z24 :: z25 :: z26 :: z27 :: z28 :: z29 :: z30 :: z31 :: z32 :: z33 :: z34 :: z35 :: z36 :: z37 :: z38 :: z39 :: z40 :: z41 :: z42 :: z43 :: z44 :: z45 :: z46 :: z47 :: z48 :: z49 :: z50 :: z51 :: (.agg (arr 4 (limb x))) :: (.agg (arr 4 (limb y))) :: (.agg (arr 4 (limb (am x y)))) :: (.agg (arr 4 (limb (mm (am x y) (am x y))))) :: (.agg (arr 4 (limb u0))) :: (.agg (arr 4 (limb x))) :: (.agg (arr 4 (limb y))) :: (.agg (arr 4 (limb (sm x y)))) :: z60 :: z61 :: zz), defers := [] } w := by
  obtain ⟨hQ, hx, hy, hu0, hb6, nb6, hb10, hb11, hb15, nb15, hb16, nb16, eb10b11, _⟩ := id C
  refine wpAnyH_ready (rs := [8]) (by kernel_rfl) (by simp) ?_
  refine AllReadyH.cons (o := mu12Op8) rfl (fun K hK => ?_) AllReadyH.nil
  rw [if_pos (by rfl)]
  refine wp_call_val 23 #[.agg (arr 4 (limb (sm x y)))] (by kernel_rfl) (.agg (arr 4 (limb (mm (sm x y) (sm x y))))) (sq_c (sm x y) _ (sm_lt _ _)) ?_
  intro w' hbw
  have hS' := hS.call hbw
  refine hK.out _ _ hS' (fun _ => ?_)
  exact wpAnyH_at (by kernel_rfl) (by kernel_rfl) (mu12_3 C w' hS' (Bb10.call hbw) (Bb11.call hbw))
set_option maxRecDepth 100000 in
set_option maxHeartbeats 2000000 in
theorem mu12_5 (C : mu12C Q u z0 z1 z2 z3 z4 z5 z7 z8 z9 z12 z13 z14 z17 z18 z19 z20 z21 z22 z23 z24 z25 z26 z27 z28 z29 z30 z31 z32 z33 z34 z35 z36 z37 z38 z39 z40 z41 z42 z43 z44 z45 z46 z47 z48 z49 z50 z51 z52 z53 z54 z55 z56 z57 z58 z59 z60 z61 zz b6 b10 b11 b15 b16 x y u0 c d) (w : World) (hS : Kp [b10, b11] u w) (Bb10 : Blk w b10 (arr 4 (limb c)) 32) (Bb11 : Blk w b11 (arr 4 (limb d)) 32) :
    wpAnyH Try.prog .any mu12Ops Q (Kp [b10, b11] u) 5 (List.toArray (true :: true :: true :: true :: true :: true :: true :: false :: false :: false :: false :: false :: [])) { tmps := List.toArray (z0 :: z1 :: z2 :: z3 :: z4 :: z5 :: (.pointer (some ⟨b6, 0, none⟩)) :: z7 :: z8 :: z9 :: (.pointer (some ⟨b10, 0, none⟩)) :: (.pointer (some ⟨b11, 0, none⟩)) :: z12 :: z13 :: z14 :: (.pointer (some ⟨b15, 0, none⟩)) :: (.pointer (some ⟨b16, 0, none⟩)) :: z17 :: z18 :: z19 :: z20 :: z21 :: z22 :: z23 :: z24 :: z25 :: z26 :: z27 :: z28 :: z29 :: z30 :: z31 :: z32 :: z33 :: z34 :: z35 :: z36 :: z37 :: z38 :: z39 :: z40 :: z41 :: z42 :: z43 :: z44 :: z45 :: z46 :: z47 :: z48 :: z49 :: z50 :: z51 :: (.agg (arr 4 (limb x))) :: (.agg (arr 4 (limb y))) :: (.agg (arr 4 (limb (am x y)))) :: (.agg (arr 4 (limb (mm (am x y) (am x y))))) :: (.agg (arr 4 (limb u0))) :: (.agg (arr 4 (limb x))) :: (.agg (arr 4 (limb y))) :: z59 :: z60 :: z61 :: zz), defers := [] } w := by
  obtain ⟨hQ, hx, hy, hu0, hb6, nb6, hb10, hb11, hb15, nb15, hb16, nb16, eb10b11, _⟩ := id C
  refine wpAnyH_ready (rs := [7]) (by kernel_rfl) (by simp) ?_
  refine AllReadyH.cons (o := mu12Op7) rfl (fun K hK => ?_) AllReadyH.nil
  rw [if_pos (by rfl)]
  refine wp_call_val 26 #[.agg (arr 4 (limb x)), .agg (arr 4 (limb y))] (by kernel_rfl) (.agg (arr 4 (limb (sm x y)))) (sub_c x y _ hx hy) ?_
  intro w' hbw
  have hS' := hS.call hbw
  refine hK.out _ _ hS' (fun _ => ?_)
  exact wpAnyH_at (by kernel_rfl) (by kernel_rfl) (mu12_4 C w' hS' (Bb10.call hbw) (Bb11.call hbw))
set_option maxRecDepth 100000 in
set_option maxHeartbeats 2000000 in
theorem mu12_6 (C : mu12C Q u z0 z1 z2 z3 z4 z5 z7 z8 z9 z12 z13 z14 z17 z18 z19 z20 z21 z22 z23 z24 z25 z26 z27 z28 z29 z30 z31 z32 z33 z34 z35 z36 z37 z38 z39 z40 z41 z42 z43 z44 z45 z46 z47 z48 z49 z50 z51 z52 z53 z54 z55 z56 z57 z58 z59 z60 z61 zz b6 b10 b11 b15 b16 x y u0 c d) (w : World) (hS : Kp [b10, b11] u w) (Bb10 : Blk w b10 (arr 4 (limb c)) 32) (Bb11 : Blk w b11 (arr 4 (limb d)) 32) :
    wpAnyH Try.prog .any mu12Ops Q (Kp [b10, b11] u) 6 (List.toArray (true :: true :: true :: false :: true :: true :: true :: false :: false :: false :: false :: false :: [])) { tmps := List.toArray (z0 :: z1 :: z2 :: z3 :: z4 :: z5 :: (.pointer (some ⟨b6, 0, none⟩)) :: z7 :: z8 :: z9 :: (.pointer (some ⟨b10, 0, none⟩)) :: (.pointer (some ⟨b11, 0, none⟩)) :: z12 :: z13 :: z14 :: (.pointer (some ⟨b15, 0, none⟩)) :: (.pointer (some ⟨b16, 0, none⟩)) :: z17 :: z18 :: z19 :: z20 :: z21 :: z22 :: z23 :: z24 :: z25 :: z26 :: z27 :: z28 :: z29 :: z30 :: z31 :: z32 :: z33 :: z34 :: z35 :: z36 :: z37 :: z38 :: z39 :: z40 :: z41 :: z42 :: z43 :: z44 :: z45 :: z46 :: z47 :: z48 :: z49 :: z50 :: z51 :: (.agg (arr 4 (limb x))) :: (.agg (arr 4 (limb y))) :: (.agg (arr 4 (limb (am x y)))) :: z55 :: (.agg (arr 4 (limb u0))) :: (.agg (arr 4 (limb x))) :: (.agg (arr 4 (limb y))) :: z59 :: z60 :: z61 :: zz), defers := [] } w := by
  obtain ⟨hQ, hx, hy, hu0, hb6, nb6, hb10, hb11, hb15, nb15, hb16, nb16, eb10b11, _⟩ := id C
  refine wpAnyH_ready (rs := [3]) (by kernel_rfl) (by simp) ?_
  refine AllReadyH.cons (o := mu12Op3) rfl (fun K hK => ?_) AllReadyH.nil
  rw [if_pos (by rfl)]
  refine wp_call_val 23 #[.agg (arr 4 (limb (am x y)))] (by kernel_rfl) (.agg (arr 4 (limb (mm (am x y) (am x y))))) (sq_c (am x y) _ (am_lt _ _)) ?_
  intro w' hbw
  have hS' := hS.call hbw
  refine hK.out _ _ hS' (fun _ => ?_)
  exact wpAnyH_at (by kernel_rfl) (by kernel_rfl) (mu12_5 C w' hS' (Bb10.call hbw) (Bb11.call hbw))
set_option maxRecDepth 100000 in
set_option maxHeartbeats 2000000 in
theorem mu12_7 (C : mu12C Q u z0 z1 z2 z3 z4 z5 z7 z8 z9 z12 z13 z14 z17 z18 z19 z20 z21 z22 z23 z24 z25 z26 z27 z28 z29 z30 z31 z32 z33 z34 z35 z36 z37 z38 z39 z40 z41 z42 z43 z44 z45 z46 z47 z48 z49 z50 z51 z52 z53 z54 z55 z56 z57 z58 z59 z60 z61 zz b6 b10 b11 b15 b16 x y u0 c d) (w : World) (hS : Kp [b10, b11] u w) (Bb10 : Blk w b10 (arr 4 (limb c)) 32) (Bb11 : Blk w b11 (arr 4 (limb d)) 32) :
    wpAnyH Try.prog .any mu12Ops Q (Kp [b10, b11] u) 7 (List.toArray (true :: true :: false :: false :: true :: true :: true :: false :: false :: false :: false :: false :: [])) { tmps := List.toArray (z0 :: z1 :: z2 :: z3 :: z4 :: z5 :: (.pointer (some ⟨b6, 0, none⟩)) :: z7 :: z8 :: z9 :: (.pointer (some ⟨b10, 0, none⟩)) :: (.pointer (some ⟨b11, 0, none⟩)) :: z12 :: z13 :: z14 :: (.pointer (some ⟨b15, 0, none⟩)) :: (.pointer (some ⟨b16, 0, none⟩)) :: z17 :: z18 :: z19 :: z20 :: z21 :: z22 :: z23 :: z24 :: z25 :: z26 :: z27 :: z28 :: z29 :: z30 :: z31 :: z32 :: z33 :: z34 :: z35 :: z36 :: z37 :: z38 :: z39 :: z40 :: z41 :: z42 :: z43 :: z44 :: z45 :: z46 :: z47 :: z48 :: z49 :: z50 :: z51 :: (.agg (arr 4 (limb x))) :: (.agg (arr 4 (limb y))) :: z54 :: z55 :: (.agg (arr 4 (limb u0))) :: (.agg (arr 4 (limb x))) :: (.agg (arr 4 (limb y))) :: z59 :: z60 :: z61 :: zz), defers := [] } w := by
  obtain ⟨hQ, hx, hy, hu0, hb6, nb6, hb10, hb11, hb15, nb15, hb16, nb16, eb10b11, _⟩ := id C
  refine wpAnyH_ready (rs := [2]) (by kernel_rfl) (by simp) ?_
  refine AllReadyH.cons (o := mu12Op2) rfl (fun K hK => ?_) AllReadyH.nil
  rw [if_pos (by rfl)]
  refine wp_call_val 24 #[.agg (arr 4 (limb x)), .agg (arr 4 (limb y))] (by kernel_rfl) (.agg (arr 4 (limb (am x y)))) (add_c x y _ hx hy) ?_
  intro w' hbw
  have hS' := hS.call hbw
  refine hK.out _ _ hS' (fun _ => ?_)
  exact wpAnyH_at (by kernel_rfl) (by kernel_rfl) (mu12_6 C w' hS' (Bb10.call hbw) (Bb11.call hbw))
end
set_option maxRecDepth 100000 in
set_option maxHeartbeats 2000000 in
theorem mu12_region (Q : Exit → Act → World → Prop) (hQ : ∀ c a w n v, Q (.panic c) (a.put (some n) v) w → Q (.panic c) a w) (u : World) (z0 z1 z2 z3 z4 z5 z7 z8 z9 z12 z13 z14 z17 z18 z19 z20 z21 z22 z23 z24 z25 z26 z27 z28 z29 z30 z31 z32 z33 z34 z35 z36 z37 z38 z39 z40 z41 z42 z43 z44 z45 z46 z47 z48 z49 z50 z51 z52 z53 z54 z55 z56 z57 z58 z59 z60 z61 : Value) (zz : List Value) (b6 b10 b11 b15 b16 : Nat) (x y u0 c d : Nat) (hx : x < pP) (hy : y < pP) (hu0 : u0 < pP) (hb6 : Blk u b6 (arr 4 (limb u0)) 32) (nb6 : b6 ∉ ([b10, b11] : List Nat)) (hb10 : Blk u b10 (arr 4 (limb c)) 32) (hb11 : Blk u b11 (arr 4 (limb d)) 32) (hb15 : Blk u b15 (arr 4 (limb x)) 32) (nb15 : b15 ∉ ([b10, b11] : List Nat)) (hb16 : Blk u b16 (arr 4 (limb y)) 32) (nb16 : b16 ∉ ([b10, b11] : List Nat)) (eb10b11 : b10 ≠ b11) (H : ∀ (w : World), Kp [b10, b11] u w → Blk w b10 (arr 4 (limb (mm (am x y) (am x y)))) 32 → Blk w b11 (arr 4 (limb (mm u0 (mm (sm x y) (sm x y))))) 32 → Q .normal { tmps := List.toArray (z0 :: z1 :: z2 :: z3 :: z4 :: z5 :: (.pointer (some ⟨b6, 0, none⟩)) :: z7 :: z8 :: z9 :: (.pointer (some ⟨b10, 0, none⟩)) :: (.pointer (some ⟨b11, 0, none⟩)) :: z12 :: z13 :: z14 :: (.pointer (some ⟨b15, 0, none⟩)) :: (.pointer (some ⟨b16, 0, none⟩)) :: z17 :: z18 :: z19 :: z20 :: z21 :: z22 :: z23 :: z24 :: z25 :: z26 :: z27 :: z28 :: z29 :: z30 :: z31 :: z32 :: z33 :: z34 :: z35 :: z36 :: z37 :: z38 :: z39 :: z40 :: z41 :: z42 :: z43 :: z44 :: z45 :: z46 :: z47 :: z48 :: z49 :: z50 :: z51 :: (.agg (arr 4 (limb x))) :: (.agg (arr 4 (limb y))) :: (.agg (arr 4 (limb (am x y)))) :: (.agg (arr 4 (limb (mm (am x y) (am x y))))) :: (.agg (arr 4 (limb u0))) :: (.agg (arr 4 (limb x))) :: (.agg (arr 4 (limb y))) :: (.agg (arr 4 (limb (sm x y)))) :: (.agg (arr 4 (limb (mm (sm x y) (sm x y))))) :: (.agg (arr 4 (limb (mm u0 (mm (sm x y) (sm x y)))))) :: zz), defers := [] } w) :
    (Code.region 12 mu12Ops true).wp Try.prog Q { tmps := List.toArray (z0 :: z1 :: z2 :: z3 :: z4 :: z5 :: (.pointer (some ⟨b6, 0, none⟩)) :: z7 :: z8 :: z9 :: (.pointer (some ⟨b10, 0, none⟩)) :: (.pointer (some ⟨b11, 0, none⟩)) :: z12 :: z13 :: z14 :: (.pointer (some ⟨b15, 0, none⟩)) :: (.pointer (some ⟨b16, 0, none⟩)) :: z17 :: z18 :: z19 :: z20 :: z21 :: z22 :: z23 :: z24 :: z25 :: z26 :: z27 :: z28 :: z29 :: z30 :: z31 :: z32 :: z33 :: z34 :: z35 :: z36 :: z37 :: z38 :: z39 :: z40 :: z41 :: z42 :: z43 :: z44 :: z45 :: z46 :: z47 :: z48 :: z49 :: z50 :: z51 :: z52 :: z53 :: z54 :: z55 :: z56 :: z57 :: z58 :: z59 :: z60 :: z61 :: zz), defers := [] } u := by
  have C : mu12C Q u z0 z1 z2 z3 z4 z5 z7 z8 z9 z12 z13 z14 z17 z18 z19 z20 z21 z22 z23 z24 z25 z26 z27 z28 z29 z30 z31 z32 z33 z34 z35 z36 z37 z38 z39 z40 z41 z42 z43 z44 z45 z46 z47 z48 z49 z50 z51 z52 z53 z54 z55 z56 z57 z58 z59 z60 z61 zz b6 b10 b11 b15 b16 x y u0 c d := ⟨hQ, hx, hy, hu0, hb6, nb6, hb10, hb11, hb15, nb15, hb16, nb16, eb10b11, H⟩
  refine wp_region_held_drew (S := (Kp [b10, b11] u)) (by kernel_rfl) (Kp.drew _ u) (fun hS' => ?_)
  refine wpAnyH_take (i := 0) (oi := mu12Op0) (v := .agg (arr 4 (limb x))) rfl (by kernel_rfl) (by kernel_rfl) (by kernel_rfl) (fun _ _ _ => hQ _ _ _ _ _) (yields_S (fun _ h => h.keep _ _ _ nb15 hb15) (by kernel_rfl) 32 _ rfl (by kernel_rfl) _ Try.underlying32 rfl (size_fe _)) hS' ?_
  refine wpAnyH_take (i := 1) (oi := mu12Op1) (v := .agg (arr 4 (limb y))) rfl (by kernel_rfl) (by kernel_rfl) (by kernel_rfl) (fun _ _ _ => hQ _ _ _ _ _) (yields_S (fun _ h => h.keep _ _ _ nb16 hb16) (by kernel_rfl) 32 _ rfl (by kernel_rfl) _ Try.underlying32 rfl (size_fe _)) hS' ?_
  refine wpAnyH_take (i := 4) (oi := mu12Op4) (v := .agg (arr 4 (limb u0))) rfl (by kernel_rfl) (by kernel_rfl) (by kernel_rfl) (fun _ _ _ => hQ _ _ _ _ _) (yields_S (fun _ h => h.keep _ _ _ nb6 hb6) (by kernel_rfl) 32 _ rfl (by kernel_rfl) _ Try.underlying32 rfl (size_fe _)) hS' ?_
  refine wpAnyH_at (listed' := (List.toArray (true :: true :: false :: false :: true :: false :: false :: false :: false :: false :: false :: false :: []))) (a' := { tmps := List.toArray (z0 :: z1 :: z2 :: z3 :: z4 :: z5 :: (.pointer (some ⟨b6, 0, none⟩)) :: z7 :: z8 :: z9 :: (.pointer (some ⟨b10, 0, none⟩)) :: (.pointer (some ⟨b11, 0, none⟩)) :: z12 :: z13 :: z14 :: (.pointer (some ⟨b15, 0, none⟩)) :: (.pointer (some ⟨b16, 0, none⟩)) :: z17 :: z18 :: z19 :: z20 :: z21 :: z22 :: z23 :: z24 :: z25 :: z26 :: z27 :: z28 :: z29 :: z30 :: z31 :: z32 :: z33 :: z34 :: z35 :: z36 :: z37 :: z38 :: z39 :: z40 :: z41 :: z42 :: z43 :: z44 :: z45 :: z46 :: z47 :: z48 :: z49 :: z50 :: z51 :: (.agg (arr 4 (limb x))) :: (.agg (arr 4 (limb y))) :: z54 :: z55 :: (.agg (arr 4 (limb u0))) :: z57 :: z58 :: z59 :: z60 :: z61 :: zz), defers := [] }) (by kernel_rfl) (by kernel_rfl) ?_
  refine wpAnyH_take (i := 5) (oi := mu12Op5) (v := .agg (arr 4 (limb x))) rfl (by kernel_rfl) (by kernel_rfl) (by kernel_rfl) (fun _ _ _ => hQ _ _ _ _ _) (yields_S (fun _ h => h.keep _ _ _ nb15 hb15) (by kernel_rfl) 32 _ rfl (by kernel_rfl) _ Try.underlying32 rfl (size_fe _)) hS' ?_
  refine wpAnyH_take (i := 6) (oi := mu12Op6) (v := .agg (arr 4 (limb y))) rfl (by kernel_rfl) (by kernel_rfl) (by kernel_rfl) (fun _ _ _ => hQ _ _ _ _ _) (yields_S (fun _ h => h.keep _ _ _ nb16 hb16) (by kernel_rfl) 32 _ rfl (by kernel_rfl) _ Try.underlying32 rfl (size_fe _)) hS' ?_
  exact wpAnyH_at (by kernel_rfl) (by kernel_rfl) (mu12_7 C u.drew hS' hb10.drew hb11.drew)
def mu15Op0 : Oper := { dst := some 66, op := Op.load 32 (Operand.tmp 8), type := 32, pos := "ladder.go:27", after := #[], guard := none }
def mu15Op1 : Oper := { dst := some 67, op := Op.load 32 (Operand.tmp 9), type := 32, pos := "ladder.go:27", after := #[], guard := none }
def mu15Op2 : Oper := { dst := some 68, op := Op.call { callee := Callee.value (Operand.func 27), args := #[Operand.tmp 67], argTypes := #[32] }, type := 32, pos := "ladder.go:27", after := #[{ on := 1, ground := Ground.data }], guard := none }
def mu15Op3 : Oper := { dst := some 69, op := Op.call { callee := Callee.value (Operand.func 25), args := #[Operand.tmp 66, Operand.tmp 68], argTypes := #[32, 32] }, type := 32, pos := "ladder.go:27", after := #[{ on := 0, ground := Ground.data }, { on := 2, ground := Ground.data }, { on := 2, ground := Ground.chain }], guard := none }
def mu15Op4 : Oper := { dst := some 70, op := Op.call { callee := Callee.value (Operand.func 14), args := #[Operand.tmp 69], argTypes := #[32] }, type := 22, pos := "ladder.go:27", after := #[{ on := 3, ground := Ground.data }, { on := 3, ground := Ground.chain }], guard := none }
def mu15Op5 : Oper := { dst := none, op := Op.store 22 (Operand.tmp 4) (Operand.tmp 70), type := 0, pos := "ladder.go:27", after := #[{ on := 4, ground := Ground.data }, { on := 4, ground := Ground.chain }, { on := 0, ground := Ground.phase }, { on := 1, ground := Ground.phase }, { on := 2, ground := Ground.phase }, { on := 3, ground := Ground.phase }, { on := 4, ground := Ground.phase }], guard := none }
def mu15Ops : Array Oper := #[mu15Op0, mu15Op1, mu15Op2, mu15Op3, mu15Op4, mu15Op5]
structure mu15C (Q : Exit → Act → World → Prop) (u : World) (z0 z1 z2 z3 z5 z6 z7 z10 z11 z12 z13 z14 z15 z16 z17 z18 z19 z20 z21 z22 z23 z24 z25 z26 z27 z28 z29 z30 z31 z32 z33 z34 z35 z36 z37 z38 z39 z40 z41 z42 z43 z44 z45 z46 z47 z48 z49 z50 z51 z52 z53 z54 z55 z56 z57 z58 z59 z60 z61 z62 z63 z64 z65 z66 z67 z68 z69 z70 : Value) (b4 b8 b9 : Nat) (a b : Nat) : Prop where
  hQ : ∀ c a w n v, Q (.panic c) (a.put (some n) v) w → Q (.panic c) a w
  ha : a < pP
  hb : b < pP
  hb4 : Blk u b4 (vals .u8 32 (fun _ => 0)) 22
  hb8 : Blk u b8 (arr 4 (limb a)) 32
  nb8 : b8 ∉ ([b4] : List Nat)
  hb9 : Blk u b9 (arr 4 (limb b)) 32
  nb9 : b9 ∉ ([b4] : List Nat)
  H : ∀ (w : World), Kp [b4] u w → Blk w b4 (vals .u8 32 (byt (mm a (iN b)))) 22 → Q .normal { tmps := List.toArray (z0 :: z1 :: z2 :: z3 :: (.pointer (some ⟨b4, 0, none⟩)) :: z5 :: z6 :: z7 :: (.pointer (some ⟨b8, 0, none⟩)) :: (.pointer (some ⟨b9, 0, none⟩)) :: z10 :: z11 :: z12 :: z13 :: z14 :: z15 :: z16 :: z17 :: z18 :: z19 :: z20 :: z21 :: z22 :: z23 :: z24 :: z25 :: z26 :: z27 :: z28 :: z29 :: z30 :: z31 :: z32 :: z33 :: z34 :: z35 :: z36 :: z37 :: z38 :: z39 :: z40 :: z41 :: z42 :: z43 :: z44 :: z45 :: z46 :: z47 :: z48 :: z49 :: z50 :: z51 :: z52 :: z53 :: z54 :: z55 :: z56 :: z57 :: z58 :: z59 :: z60 :: z61 :: z62 :: z63 :: z64 :: z65 :: (.agg (arr 4 (limb a))) :: (.agg (arr 4 (limb b))) :: (.agg (arr 4 (limb (iN b)))) :: (.agg (arr 4 (limb (mm a (iN b))))) :: (.agg (vals .u8 32 (byt (mm a (iN b))))) :: []), defers := [] } w
section
variable {Q : Exit → Act → World → Prop} {u : World} {z0 z1 z2 z3 z5 z6 z7 z10 z11 z12 z13 z14 z15 z16 z17 z18 z19 z20 z21 z22 z23 z24 z25 z26 z27 z28 z29 z30 z31 z32 z33 z34 z35 z36 z37 z38 z39 z40 z41 z42 z43 z44 z45 z46 z47 z48 z49 z50 z51 z52 z53 z54 z55 z56 z57 z58 z59 z60 z61 z62 z63 z64 z65 z66 z67 z68 z69 z70 : Value} {b4 b8 b9 : Nat} {a b : Nat}
set_option maxRecDepth 100000 in
set_option maxHeartbeats 2000000 in
theorem mu15_0 (C : mu15C Q u z0 z1 z2 z3 z5 z6 z7 z10 z11 z12 z13 z14 z15 z16 z17 z18 z19 z20 z21 z22 z23 z24 z25 z26 z27 z28 z29 z30 z31 z32 z33 z34 z35 z36 z37 z38 z39 z40 z41 z42 z43 z44 z45 z46 z47 z48 z49 z50 z51 z52 z53 z54 z55 z56 z57 z58 z59 z60 z61 z62 z63 z64 z65 z66 z67 z68 z69 z70 b4 b8 b9 a b) (w : World) (hS : Kp [b4] u w) (Bb4 : Blk w b4 (vals .u8 32 (byt (mm a (iN b)))) 22) :
    wpAnyH Try.prog .any mu15Ops Q (Kp [b4] u) 0 (List.toArray (true :: true :: true :: true :: true :: true :: [])) { tmps := List.toArray (z0 :: z1 :: z2 :: z3 :: (.pointer (some ⟨b4, 0, none⟩)) :: z5 :: z6 :: z7 :: (.pointer (some ⟨b8, 0, none⟩)) :: (.pointer (some ⟨b9, 0, none⟩)) :: z10 :: z11 :: z12 :: z13 :: z14 :: z15 :: z16 :: z17 :: z18 :: z19 :: z20 :: z21 :: z22 :: z23 :: z24 :: z25 :: z26 :: z27 :: z28 :: z29 :: z30 :: z31 :: z32 :: z33 :: z34 :: z35 :: z36 :: z37 :: z38 :: z39 :: z40 :: z41 :: z42 :: z43 :: z44 :: z45 :: z46 :: z47 :: z48 :: z49 :: z50 :: z51 :: z52 :: z53 :: z54 :: z55 :: z56 :: z57 :: z58 :: z59 :: z60 :: z61 :: z62 :: z63 :: z64 :: z65 :: (.agg (arr 4 (limb a))) :: (.agg (arr 4 (limb b))) :: (.agg (arr 4 (limb (iN b)))) :: (.agg (arr 4 (limb (mm a (iN b))))) :: (.agg (vals .u8 32 (byt (mm a (iN b))))) :: []), defers := [] } w := by
  exact wpAnyH_done (by kernel_rfl) (C.H  w hS Bb4) _
set_option maxRecDepth 100000 in
set_option maxHeartbeats 2000000 in
theorem mu15_1 (C : mu15C Q u z0 z1 z2 z3 z5 z6 z7 z10 z11 z12 z13 z14 z15 z16 z17 z18 z19 z20 z21 z22 z23 z24 z25 z26 z27 z28 z29 z30 z31 z32 z33 z34 z35 z36 z37 z38 z39 z40 z41 z42 z43 z44 z45 z46 z47 z48 z49 z50 z51 z52 z53 z54 z55 z56 z57 z58 z59 z60 z61 z62 z63 z64 z65 z66 z67 z68 z69 z70 b4 b8 b9 a b) (w : World) (hS : Kp [b4] u w) (Bb4 : Blk w b4 (vals .u8 32 (fun _ => 0)) 22) :
    wpAnyH Try.prog .any mu15Ops Q (Kp [b4] u) 1 (List.toArray (true :: true :: true :: true :: true :: false :: [])) { tmps := List.toArray (z0 :: z1 :: z2 :: z3 :: (.pointer (some ⟨b4, 0, none⟩)) :: z5 :: z6 :: z7 :: (.pointer (some ⟨b8, 0, none⟩)) :: (.pointer (some ⟨b9, 0, none⟩)) :: z10 :: z11 :: z12 :: z13 :: z14 :: z15 :: z16 :: z17 :: z18 :: z19 :: z20 :: z21 :: z22 :: z23 :: z24 :: z25 :: z26 :: z27 :: z28 :: z29 :: z30 :: z31 :: z32 :: z33 :: z34 :: z35 :: z36 :: z37 :: z38 :: z39 :: z40 :: z41 :: z42 :: z43 :: z44 :: z45 :: z46 :: z47 :: z48 :: z49 :: z50 :: z51 :: z52 :: z53 :: z54 :: z55 :: z56 :: z57 :: z58 :: z59 :: z60 :: z61 :: z62 :: z63 :: z64 :: z65 :: (.agg (arr 4 (limb a))) :: (.agg (arr 4 (limb b))) :: (.agg (arr 4 (limb (iN b)))) :: (.agg (arr 4 (limb (mm a (iN b))))) :: (.agg (vals .u8 32 (byt (mm a (iN b))))) :: []), defers := [] } w := by
  obtain ⟨hQ, ha, hb, hb4, hb8, nb8, hb9, nb9, _⟩ := id C
  refine wpAnyH_ready (rs := [5]) (by kernel_rfl) (by simp) ?_
  refine AllReadyH.cons (o := mu15Op5) rfl (fun K hK => ?_) AllReadyH.nil
  rw [if_pos (by rfl)]
  refine wp_store_row 22 _ _ rfl b4 (vals .u8 32 (byt (mm a (iN b)))) (by kernel_rfl) (by kernel_rfl) 22 _ Bb4 (size_by _) (by rw [vals_size, vals_size]) (vals_one _ _ _) ?_
  have hS' := hS.old (x := b4) (by simp) (vals .u8 32 (byt (mm a (iN b))))
  refine hK.out _ _ hS' (fun _ => ?_)
  exact wpAnyH_at (by kernel_rfl) (by kernel_rfl) (mu15_0 C (w.setRow b4 (vals .u8 32 (byt (mm a (iN b))))) hS' (Bb4.row (vals .u8 32 (byt (mm a (iN b))))))
set_option maxRecDepth 100000 in
set_option maxHeartbeats 2000000 in
theorem mu15_2 (C : mu15C Q u z0 z1 z2 z3 z5 z6 z7 z10 z11 z12 z13 z14 z15 z16 z17 z18 z19 z20 z21 z22 z23 z24 z25 z26 z27 z28 z29 z30 z31 z32 z33 z34 z35 z36 z37 z38 z39 z40 z41 z42 z43 z44 z45 z46 z47 z48 z49 z50 z51 z52 z53 z54 z55 z56 z57 z58 z59 z60 z61 z62 z63 z64 z65 z66 z67 z68 z69 z70 b4 b8 b9 a b) (w : World) (hS : Kp [b4] u w) (Bb4 : Blk w b4 (vals .u8 32 (fun _ => 0)) 22) :
    wpAnyH Try.prog .any mu15Ops Q (Kp [b4] u) 2 (List.toArray (true :: true :: true :: true :: false :: false :: [])) { tmps := List.toArray (z0 :: z1 :: z2 :: z3 :: (.pointer (some ⟨b4, 0, none⟩)) :: z5 :: z6 :: z7 :: (.pointer (some ⟨b8, 0, none⟩)) :: (.pointer (some ⟨b9, 0, none⟩)) :: z10 :: z11 :: z12 :: z13 :: z14 :: z15 :: z16 :: z17 :: z18 :: z19 :: z20 :: z21 :: z22 :: z23 :: z24 :: z25 :: z26 :: z27 :: z28 :: z29 :: z30 :: z31 :: z32 :: z33 :: z34 :: z35 :: z36 :: z37 :: z38 :: z39 :: z40 :: z41 :: z42 :: z43 :: z44 :: z45 :: z46 :: z47 :: z48 :: z49 :: z50 :: z51 :: z52 :: z53 :: z54 :: z55 :: z56 :: z57 :: z58 :: z59 :: z60 :: z61 :: z62 :: z63 :: z64 :: z65 :: (.agg (arr 4 (limb a))) :: (.agg (arr 4 (limb b))) :: (.agg (arr 4 (limb (iN b)))) :: (.agg (arr 4 (limb (mm a (iN b))))) :: z70 :: []), defers := [] } w := by
  obtain ⟨hQ, ha, hb, hb4, hb8, nb8, hb9, nb9, _⟩ := id C
  refine wpAnyH_ready (rs := [4]) (by kernel_rfl) (by simp) ?_
  refine AllReadyH.cons (o := mu15Op4) rfl (fun K hK => ?_) AllReadyH.nil
  rw [if_pos (by rfl)]
  refine wp_call_val 14 #[.agg (arr 4 (limb (mm a (iN b))))] (by kernel_rfl) (.agg (vals .u8 32 (byt (mm a (iN b))))) (bytes_c (mm a (iN b)) _) ?_
  intro w' hbw
  have hS' := hS.call hbw
  refine hK.out _ _ hS' (fun _ => ?_)
  exact wpAnyH_at (by kernel_rfl) (by kernel_rfl) (mu15_1 C w' hS' (Bb4.call hbw))
set_option maxRecDepth 100000 in
set_option maxHeartbeats 2000000 in
theorem mu15_3 (C : mu15C Q u z0 z1 z2 z3 z5 z6 z7 z10 z11 z12 z13 z14 z15 z16 z17 z18 z19 z20 z21 z22 z23 z24 z25 z26 z27 z28 z29 z30 z31 z32 z33 z34 z35 z36 z37 z38 z39 z40 z41 z42 z43 z44 z45 z46 z47 z48 z49 z50 z51 z52 z53 z54 z55 z56 z57 z58 z59 z60 z61 z62 z63 z64 z65 z66 z67 z68 z69 z70 b4 b8 b9 a b) (w : World) (hS : Kp [b4] u w) (Bb4 : Blk w b4 (vals .u8 32 (fun _ => 0)) 22) :
    wpAnyH Try.prog .any mu15Ops Q (Kp [b4] u) 3 (List.toArray (true :: true :: true :: false :: false :: false :: [])) { tmps := List.toArray (z0 :: z1 :: z2 :: z3 :: (.pointer (some ⟨b4, 0, none⟩)) :: z5 :: z6 :: z7 :: (.pointer (some ⟨b8, 0, none⟩)) :: (.pointer (some ⟨b9, 0, none⟩)) :: z10 :: z11 :: z12 :: z13 :: z14 :: z15 :: z16 :: z17 :: z18 :: z19 :: z20 :: z21 :: z22 :: z23 :: z24 :: z25 :: z26 :: z27 :: z28 :: z29 :: z30 :: z31 :: z32 :: z33 :: z34 :: z35 :: z36 :: z37 :: z38 :: z39 :: z40 :: z41 :: z42 :: z43 :: z44 :: z45 :: z46 :: z47 :: z48 :: z49 :: z50 :: z51 :: z52 :: z53 :: z54 :: z55 :: z56 :: z57 :: z58 :: z59 :: z60 :: z61 :: z62 :: z63 :: z64 :: z65 :: (.agg (arr 4 (limb a))) :: (.agg (arr 4 (limb b))) :: (.agg (arr 4 (limb (iN b)))) :: z69 :: z70 :: []), defers := [] } w := by
  obtain ⟨hQ, ha, hb, hb4, hb8, nb8, hb9, nb9, _⟩ := id C
  refine wpAnyH_ready (rs := [3]) (by kernel_rfl) (by simp) ?_
  refine AllReadyH.cons (o := mu15Op3) rfl (fun K hK => ?_) AllReadyH.nil
  rw [if_pos (by rfl)]
  refine wp_call_val 25 #[.agg (arr 4 (limb a)), .agg (arr 4 (limb (iN b)))] (by kernel_rfl) (.agg (arr 4 (limb (mm a (iN b))))) (mul_c a (iN b) _ ha (iN_lt _)) ?_
  intro w' hbw
  have hS' := hS.call hbw
  refine hK.out _ _ hS' (fun _ => ?_)
  exact wpAnyH_at (by kernel_rfl) (by kernel_rfl) (mu15_2 C w' hS' (Bb4.call hbw))
set_option maxRecDepth 100000 in
set_option maxHeartbeats 2000000 in
theorem mu15_4 (C : mu15C Q u z0 z1 z2 z3 z5 z6 z7 z10 z11 z12 z13 z14 z15 z16 z17 z18 z19 z20 z21 z22 z23 z24 z25 z26 z27 z28 z29 z30 z31 z32 z33 z34 z35 z36 z37 z38 z39 z40 z41 z42 z43 z44 z45 z46 z47 z48 z49 z50 z51 z52 z53 z54 z55 z56 z57 z58 z59 z60 z61 z62 z63 z64 z65 z66 z67 z68 z69 z70 b4 b8 b9 a b) (w : World) (hS : Kp [b4] u w) (Bb4 : Blk w b4 (vals .u8 32 (fun _ => 0)) 22) :
    wpAnyH Try.prog .any mu15Ops Q (Kp [b4] u) 4 (List.toArray (true :: true :: false :: false :: false :: false :: [])) { tmps := List.toArray (z0 :: z1 :: z2 :: z3 :: (.pointer (some ⟨b4, 0, none⟩)) :: z5 :: z6 :: z7 :: (.pointer (some ⟨b8, 0, none⟩)) :: (.pointer (some ⟨b9, 0, none⟩)) :: z10 :: z11 :: z12 :: z13 :: z14 :: z15 :: z16 :: z17 :: z18 :: z19 :: z20 :: z21 :: z22 :: z23 :: z24 :: z25 :: z26 :: z27 :: z28 :: z29 :: z30 :: z31 :: z32 :: z33 :: z34 :: z35 :: z36 :: z37 :: z38 :: z39 :: z40 :: z41 :: z42 :: z43 :: z44 :: z45 :: z46 :: z47 :: z48 :: z49 :: z50 :: z51 :: z52 :: z53 :: z54 :: z55 :: z56 :: z57 :: z58 :: z59 :: z60 :: z61 :: z62 :: z63 :: z64 :: z65 :: (.agg (arr 4 (limb a))) :: (.agg (arr 4 (limb b))) :: z68 :: z69 :: z70 :: []), defers := [] } w := by
  obtain ⟨hQ, ha, hb, hb4, hb8, nb8, hb9, nb9, _⟩ := id C
  refine wpAnyH_ready (rs := [2]) (by kernel_rfl) (by simp) ?_
  refine AllReadyH.cons (o := mu15Op2) rfl (fun K hK => ?_) AllReadyH.nil
  rw [if_pos (by rfl)]
  refine wp_call_val 27 #[.agg (arr 4 (limb b))] (by kernel_rfl) (.agg (arr 4 (limb (iN b)))) (inv_c b _ hb) ?_
  intro w' hbw
  have hS' := hS.call hbw
  refine hK.out _ _ hS' (fun _ => ?_)
  exact wpAnyH_at (by kernel_rfl) (by kernel_rfl) (mu15_3 C w' hS' (Bb4.call hbw))
end
set_option maxRecDepth 100000 in
set_option maxHeartbeats 2000000 in
theorem mu15_region (Q : Exit → Act → World → Prop) (hQ : ∀ c a w n v, Q (.panic c) (a.put (some n) v) w → Q (.panic c) a w) (u : World) (z0 z1 z2 z3 z5 z6 z7 z10 z11 z12 z13 z14 z15 z16 z17 z18 z19 z20 z21 z22 z23 z24 z25 z26 z27 z28 z29 z30 z31 z32 z33 z34 z35 z36 z37 z38 z39 z40 z41 z42 z43 z44 z45 z46 z47 z48 z49 z50 z51 z52 z53 z54 z55 z56 z57 z58 z59 z60 z61 z62 z63 z64 z65 z66 z67 z68 z69 z70 : Value) (b4 b8 b9 : Nat) (a b : Nat) (ha : a < pP) (hb : b < pP) (hb4 : Blk u b4 (vals .u8 32 (fun _ => 0)) 22) (hb8 : Blk u b8 (arr 4 (limb a)) 32) (nb8 : b8 ∉ ([b4] : List Nat)) (hb9 : Blk u b9 (arr 4 (limb b)) 32) (nb9 : b9 ∉ ([b4] : List Nat)) (H : ∀ (w : World), Kp [b4] u w → Blk w b4 (vals .u8 32 (byt (mm a (iN b)))) 22 → Q .normal { tmps := List.toArray (z0 :: z1 :: z2 :: z3 :: (.pointer (some ⟨b4, 0, none⟩)) :: z5 :: z6 :: z7 :: (.pointer (some ⟨b8, 0, none⟩)) :: (.pointer (some ⟨b9, 0, none⟩)) :: z10 :: z11 :: z12 :: z13 :: z14 :: z15 :: z16 :: z17 :: z18 :: z19 :: z20 :: z21 :: z22 :: z23 :: z24 :: z25 :: z26 :: z27 :: z28 :: z29 :: z30 :: z31 :: z32 :: z33 :: z34 :: z35 :: z36 :: z37 :: z38 :: z39 :: z40 :: z41 :: z42 :: z43 :: z44 :: z45 :: z46 :: z47 :: z48 :: z49 :: z50 :: z51 :: z52 :: z53 :: z54 :: z55 :: z56 :: z57 :: z58 :: z59 :: z60 :: z61 :: z62 :: z63 :: z64 :: z65 :: (.agg (arr 4 (limb a))) :: (.agg (arr 4 (limb b))) :: (.agg (arr 4 (limb (iN b)))) :: (.agg (arr 4 (limb (mm a (iN b))))) :: (.agg (vals .u8 32 (byt (mm a (iN b))))) :: []), defers := [] } w) :
    (Code.region 15 mu15Ops true).wp Try.prog Q { tmps := List.toArray (z0 :: z1 :: z2 :: z3 :: (.pointer (some ⟨b4, 0, none⟩)) :: z5 :: z6 :: z7 :: (.pointer (some ⟨b8, 0, none⟩)) :: (.pointer (some ⟨b9, 0, none⟩)) :: z10 :: z11 :: z12 :: z13 :: z14 :: z15 :: z16 :: z17 :: z18 :: z19 :: z20 :: z21 :: z22 :: z23 :: z24 :: z25 :: z26 :: z27 :: z28 :: z29 :: z30 :: z31 :: z32 :: z33 :: z34 :: z35 :: z36 :: z37 :: z38 :: z39 :: z40 :: z41 :: z42 :: z43 :: z44 :: z45 :: z46 :: z47 :: z48 :: z49 :: z50 :: z51 :: z52 :: z53 :: z54 :: z55 :: z56 :: z57 :: z58 :: z59 :: z60 :: z61 :: z62 :: z63 :: z64 :: z65 :: z66 :: z67 :: z68 :: z69 :: z70 :: []), defers := [] } u := by
  have C : mu15C Q u z0 z1 z2 z3 z5 z6 z7 z10 z11 z12 z13 z14 z15 z16 z17 z18 z19 z20 z21 z22 z23 z24 z25 z26 z27 z28 z29 z30 z31 z32 z33 z34 z35 z36 z37 z38 z39 z40 z41 z42 z43 z44 z45 z46 z47 z48 z49 z50 z51 z52 z53 z54 z55 z56 z57 z58 z59 z60 z61 z62 z63 z64 z65 z66 z67 z68 z69 z70 b4 b8 b9 a b := ⟨hQ, ha, hb, hb4, hb8, nb8, hb9, nb9, H⟩
  refine wp_region_held_drew (S := (Kp [b4] u)) (by kernel_rfl) (Kp.drew _ u) (fun hS' => ?_)
  refine wpAnyH_take (i := 0) (oi := mu15Op0) (v := .agg (arr 4 (limb a))) rfl (by kernel_rfl) (by kernel_rfl) (by kernel_rfl) (fun _ _ _ => hQ _ _ _ _ _) (yields_S (fun _ h => h.keep _ _ _ nb8 hb8) (by kernel_rfl) 32 _ rfl (by kernel_rfl) _ Try.underlying32 rfl (size_fe _)) hS' ?_
  refine wpAnyH_take (i := 1) (oi := mu15Op1) (v := .agg (arr 4 (limb b))) rfl (by kernel_rfl) (by kernel_rfl) (by kernel_rfl) (fun _ _ _ => hQ _ _ _ _ _) (yields_S (fun _ h => h.keep _ _ _ nb9 hb9) (by kernel_rfl) 32 _ rfl (by kernel_rfl) _ Try.underlying32 rfl (size_fe _)) hS' ?_
  exact wpAnyH_at (by kernel_rfl) (by kernel_rfl) (mu15_4 C u.drew hS' hb4.drew)
end Go.Proofs.Ytidhffaphbiapaa

/- Walks: doubled. Two numbers below p; no other condition. -/
import Derived.Test.YtidhffaphbiapaaPc
namespace Go.Proofs.Ytidhffaphbiapaa
open F Go.RowKit

def kB (i : Nat) : Nat := if i = 0 then 65 else if i = 1 then 219 else if i = 2 then 1 else 0
theorem kB_lt (i : Nat) : kB i < 256 := by unfold kB; split; omega; split; omega; split <;> omega
theorem nb_kB : nb kB 32 % pP = 121665 := by decide +kernel
theorem k_c (w : World) : Ret 13 #[.agg (vals .u8 32 kB)] w (.agg (arr 4 (limb 121665))) := by
  have h := load_c kB w kB_lt
  rw [nb_kB] at h
  exact h
def db0Op0 : Oper := { dst := some 2, op := Op.box 32 (Operand.tmp 0), type := 0, pos := "ladder.go:61", after := #[], guard := none }
def db0Op1 : Oper := { dst := some 3, op := Op.box 32 (Operand.tmp 1), type := 0, pos := "ladder.go:61", after := #[], guard := none }
def db0Op2 : Oper := { dst := some 4, op := Op.alloc 32, type := 0, pos := "ladder.go:61", after := #[], guard := none }
def db0Op3 : Oper := { dst := some 5, op := Op.alloc 32, type := 0, pos := "ladder.go:61", after := #[], guard := none }
def db0Ops : Array Oper := #[db0Op0, db0Op1, db0Op2, db0Op3]
set_option maxRecDepth 100000 in
set_option maxHeartbeats 2000000 in
theorem db0_region (Q : Exit → Act → World → Prop) (hQ : ∀ c a w n v, Q (.panic c) (a.put (some n) v) w → Q (.panic c) a w) (u : World) (z2 z3 z4 z5 : Value) (zz : List Value) (a b : Nat) (H : ∀ (n2 : Nat) (n3 : Nat) (n4 : Nat) (n5 : Nat) (w : World), Kp [] u w → u.heap.size ≤ n2 → Blk w n2 (arr 4 (limb a)) 32 → u.heap.size ≤ n3 → Blk w n3 (arr 4 (limb b)) 32 → u.heap.size ≤ n4 → Blk w n4 (arr 4 (fun _ => 0)) 32 → u.heap.size ≤ n5 → Blk w n5 (arr 4 (fun _ => 0)) 32 → n2 ≠ n3 → n2 ≠ n4 → n2 ≠ n5 → n3 ≠ n4 → n3 ≠ n5 → n4 ≠ n5 → Q .normal { tmps := List.toArray ((.agg (arr 4 (limb a))) :: (.agg (arr 4 (limb b))) :: (.pointer (some ⟨n2, 0, none⟩)) :: (.pointer (some ⟨n3, 0, none⟩)) :: (.pointer (some ⟨n4, 0, none⟩)) :: (.pointer (some ⟨n5, 0, none⟩)) :: zz), defers := [] } w) :
    (Code.region 0 db0Ops false).wp Try.prog Q { tmps := List.toArray ((.agg (arr 4 (limb a))) :: (.agg (arr 4 (limb b))) :: z2 :: z3 :: z4 :: z5 :: zz), defers := [] } u := by
  have _ := hQ
  have _ := u
  have _ := z2
  have _ := z3
  have _ := z4
  have _ := z5
  have _ := zz
  have _ := a
  have _ := b
  refine wp_region_list (show wpList _ db0Ops _ [db0Op0, db0Op1, db0Op2, db0Op3] _ _ from ?_)
  have hS : Kp [] u u := Kp.refl _ u
  refine wpList_plain rfl (fun K hK => ?_)
  refine wp_new _ 32 (box_fe _ _ _ _ (limb a) rfl (by kernel_rfl)) ?_
  intro n2 w0 eb Bn2 hbw
  have hS' := hS.call hbw
  refine hK _ _ ?_
  clear hK K
  have qgn2 : u.heap.size ≤ n2 := (by rw [eb]; exact hS.size)
  have qBn2 : Blk w0 n2 (arr 4 (limb a)) 32 := Bn2
  clear hS
  have gn2 := qgn2
  have Bn2 := qBn2
  have hS := hS'
  clear hS' qgn2 qBn2
  refine wpList_fr (a' := { tmps := List.toArray ((.agg (arr 4 (limb a))) :: (.agg (arr 4 (limb b))) :: (.pointer (some ⟨n2, 0, none⟩)) :: z3 :: z4 :: z5 :: zz), defers := [] }) (by kernel_rfl) ?_
  refine wpList_plain rfl (fun K hK => ?_)
  refine wp_new _ 32 (box_fe _ _ _ _ (limb b) rfl (by kernel_rfl)) ?_
  intro n3 w1 eb Bn3 hbw
  have hS' := hS.call hbw
  refine hK _ _ ?_
  clear hK K
  have qgn2 : u.heap.size ≤ n2 := gn2
  have qBn2 : Blk w1 n2 (arr 4 (limb a)) 32 := (Bn2.call hbw)
  have qgn3 : u.heap.size ≤ n3 := (by rw [eb]; exact hS.size)
  have qBn3 : Blk w1 n3 (arr 4 (limb b)) 32 := Bn3
  have qen2n3 : n2 ≠ n3 := (by rw [eb]; exact Nat.ne_of_lt Bn2.lt)
  clear hS gn2 Bn2
  have gn2 := qgn2
  have Bn2 := qBn2
  have gn3 := qgn3
  have Bn3 := qBn3
  have en2n3 := qen2n3
  have hS := hS'
  clear hS' qgn2 qBn2 qgn3 qBn3 qen2n3
  refine wpList_fr (a' := { tmps := List.toArray ((.agg (arr 4 (limb a))) :: (.agg (arr 4 (limb b))) :: (.pointer (some ⟨n2, 0, none⟩)) :: (.pointer (some ⟨n3, 0, none⟩)) :: z4 :: z5 :: zz), defers := [] }) (by kernel_rfl) ?_
  refine wpList_plain rfl (fun K hK => ?_)
  refine wp_new _ 32 (alloc_fe _ _ _ rfl) ?_
  intro n4 w2 eb Bn4 hbw
  have hS' := hS.call hbw
  refine hK _ _ ?_
  clear hK K
  have qgn2 : u.heap.size ≤ n2 := gn2
  have qBn2 : Blk w2 n2 (arr 4 (limb a)) 32 := (Bn2.call hbw)
  have qgn3 : u.heap.size ≤ n3 := gn3
  have qBn3 : Blk w2 n3 (arr 4 (limb b)) 32 := (Bn3.call hbw)
  have qgn4 : u.heap.size ≤ n4 := (by rw [eb]; exact hS.size)
  have qBn4 : Blk w2 n4 (arr 4 (fun _ => 0)) 32 := Bn4
  have qen2n3 : n2 ≠ n3 := en2n3
  have qen2n4 : n2 ≠ n4 := (by rw [eb]; exact Nat.ne_of_lt Bn2.lt)
  have qen3n4 : n3 ≠ n4 := (by rw [eb]; exact Nat.ne_of_lt Bn3.lt)
  clear hS gn2 Bn2 gn3 Bn3 en2n3
  have gn2 := qgn2
  have Bn2 := qBn2
  have gn3 := qgn3
  have Bn3 := qBn3
  have gn4 := qgn4
  have Bn4 := qBn4
  have en2n3 := qen2n3
  have en2n4 := qen2n4
  have en3n4 := qen3n4
  have hS := hS'
  clear hS' qgn2 qBn2 qgn3 qBn3 qgn4 qBn4 qen2n3 qen2n4 qen3n4
  refine wpList_fr (a' := { tmps := List.toArray ((.agg (arr 4 (limb a))) :: (.agg (arr 4 (limb b))) :: (.pointer (some ⟨n2, 0, none⟩)) :: (.pointer (some ⟨n3, 0, none⟩)) :: (.pointer (some ⟨n4, 0, none⟩)) :: z5 :: zz), defers := [] }) (by kernel_rfl) ?_
  refine wpList_plain rfl (fun K hK => ?_)
  refine wp_new _ 32 (alloc_fe _ _ _ rfl) ?_
  intro n5 w3 eb Bn5 hbw
  have hS' := hS.call hbw
  refine hK _ _ ?_
  clear hK K
  have qgn2 : u.heap.size ≤ n2 := gn2
  have qBn2 : Blk w3 n2 (arr 4 (limb a)) 32 := (Bn2.call hbw)
  have qgn3 : u.heap.size ≤ n3 := gn3
  have qBn3 : Blk w3 n3 (arr 4 (limb b)) 32 := (Bn3.call hbw)
  have qgn4 : u.heap.size ≤ n4 := gn4
  have qBn4 : Blk w3 n4 (arr 4 (fun _ => 0)) 32 := (Bn4.call hbw)
  have qgn5 : u.heap.size ≤ n5 := (by rw [eb]; exact hS.size)
  have qBn5 : Blk w3 n5 (arr 4 (fun _ => 0)) 32 := Bn5
  have qen2n3 : n2 ≠ n3 := en2n3
  have qen2n4 : n2 ≠ n4 := en2n4
  have qen2n5 : n2 ≠ n5 := (by rw [eb]; exact Nat.ne_of_lt Bn2.lt)
  have qen3n4 : n3 ≠ n4 := en3n4
  have qen3n5 : n3 ≠ n5 := (by rw [eb]; exact Nat.ne_of_lt Bn3.lt)
  have qen4n5 : n4 ≠ n5 := (by rw [eb]; exact Nat.ne_of_lt Bn4.lt)
  clear hS gn2 Bn2 gn3 Bn3 gn4 Bn4 en2n3 en2n4 en3n4
  have gn2 := qgn2
  have Bn2 := qBn2
  have gn3 := qgn3
  have Bn3 := qBn3
  have gn4 := qgn4
  have Bn4 := qBn4
  have gn5 := qgn5
  have Bn5 := qBn5
  have en2n3 := qen2n3
  have en2n4 := qen2n4
  have en2n5 := qen2n5
  have en3n4 := qen3n4
  have en3n5 := qen3n5
  have en4n5 := qen4n5
  have hS := hS'
  clear hS' qgn2 qBn2 qgn3 qBn3 qgn4 qBn4 qgn5 qBn5 qen2n3 qen2n4 qen2n5 qen3n4 qen3n5 qen4n5
  refine wpList_fr (a' := { tmps := List.toArray ((.agg (arr 4 (limb a))) :: (.agg (arr 4 (limb b))) :: (.pointer (some ⟨n2, 0, none⟩)) :: (.pointer (some ⟨n3, 0, none⟩)) :: (.pointer (some ⟨n4, 0, none⟩)) :: (.pointer (some ⟨n5, 0, none⟩)) :: zz), defers := [] }) (by kernel_rfl) ?_
  refine wpList_nil ?_
  exact H n2 n3 n4 n5 w3 hS gn2 Bn2 gn3 Bn3 gn4 Bn4 gn5 Bn5 en2n3 en2n4 en2n5 en3n4 en3n5 en4n5
def db1Op0 : Oper := { dst := some 10, op := Op.load 32 (Operand.tmp 2), type := 32, pos := "ladder.go:62", after := #[], guard := none }
def db1Op1 : Oper := { dst := some 11, op := Op.load 32 (Operand.tmp 3), type := 32, pos := "ladder.go:62", after := #[], guard := none }
def db1Op2 : Oper := { dst := some 12, op := Op.call { callee := Callee.value (Operand.func 24), args := #[Operand.tmp 10, Operand.tmp 11], argTypes := #[32, 32] }, type := 32, pos := "ladder.go:62", after := #[{ on := 0, ground := Ground.data }, { on := 1, ground := Ground.data }], guard := none }
def db1Op3 : Oper := { dst := some 13, op := Op.call { callee := Callee.value (Operand.func 23), args := #[Operand.tmp 12], argTypes := #[32] }, type := 32, pos := "ladder.go:62", after := #[{ on := 2, ground := Ground.data }, { on := 2, ground := Ground.chain }], guard := none }
def db1Op4 : Oper := { dst := some 14, op := Op.load 32 (Operand.tmp 2), type := 32, pos := "ladder.go:62", after := #[], guard := none }
def db1Op5 : Oper := { dst := some 15, op := Op.load 32 (Operand.tmp 3), type := 32, pos := "ladder.go:62", after := #[], guard := none }
def db1Op6 : Oper := { dst := some 16, op := Op.call { callee := Callee.value (Operand.func 26), args := #[Operand.tmp 14, Operand.tmp 15], argTypes := #[32, 32] }, type := 32, pos := "ladder.go:62", after := #[{ on := 4, ground := Ground.data }, { on := 5, ground := Ground.data }, { on := 3, ground := Ground.chain }], guard := none }
def db1Op7 : Oper := { dst := some 17, op := Op.call { callee := Callee.value (Operand.func 23), args := #[Operand.tmp 16], argTypes := #[32] }, type := 32, pos := "ladder.go:62", after := #[{ on := 6, ground := Ground.data }, { on := 6, ground := Ground.chain }], guard := none }
def db1Op8 : Oper := { dst := some 6, op := Op.alloc 32, type := 0, pos := "ladder.go:62", after := #[], guard := none }
def db1Op9 : Oper := { dst := some 7, op := Op.alloc 32, type := 0, pos := "ladder.go:62", after := #[], guard := none }
def db1Op10 : Oper := { dst := none, op := Op.store 32 (Operand.tmp 6) (Operand.tmp 13), type := 0, pos := "ladder.go:62", after := #[{ on := 8, ground := Ground.data }, { on := 3, ground := Ground.data }, { on := 7, ground := Ground.chain }, { on := 0, ground := Ground.phase }, { on := 1, ground := Ground.phase }, { on := 2, ground := Ground.phase }, { on := 3, ground := Ground.phase }, { on := 4, ground := Ground.textOnly Departure.lateStores }, { on := 5, ground := Ground.textOnly Departure.lateStores }, { on := 6, ground := Ground.textOnly Departure.lateStoresUnsure }, { on := 7, ground := Ground.textOnly Departure.lateStoresUnsure }, { on := 8, ground := Ground.phase }, { on := 9, ground := Ground.phase }], guard := none }
def db1Op11 : Oper := { dst := none, op := Op.store 32 (Operand.tmp 7) (Operand.tmp 17), type := 0, pos := "ladder.go:62", after := #[{ on := 9, ground := Ground.data }, { on := 7, ground := Ground.data }, { on := 10, ground := Ground.chain }, { on := 0, ground := Ground.phase }, { on := 1, ground := Ground.phase }, { on := 2, ground := Ground.phase }, { on := 3, ground := Ground.phase }, { on := 4, ground := Ground.phase }, { on := 5, ground := Ground.phase }, { on := 6, ground := Ground.phase }, { on := 7, ground := Ground.phase }, { on := 8, ground := Ground.phase }, { on := 9, ground := Ground.phase }, { on := 10, ground := Ground.phase }], guard := none }
def db1Ops : Array Oper := #[db1Op0, db1Op1, db1Op2, db1Op3, db1Op4, db1Op5, db1Op6, db1Op7, db1Op8, db1Op9, db1Op10, db1Op11]
structure db1C (Q : Exit → Act → World → Prop) (u : World) (z6 z7 z8 z9 z10 z11 z12 z13 z14 z15 z16 z17 : Value) (zz : List Value) (b2 b3 b4 b5 : Nat) (a b : Nat) : Prop where
  hQ : ∀ c a w n v, Q (.panic c) (a.put (some n) v) w → Q (.panic c) a w
  ha : a < pP
  hb : b < pP
  hb2 : Blk u b2 (arr 4 (limb a)) 32
  nb2 : b2 ∉ ([] : List Nat)
  hb3 : Blk u b3 (arr 4 (limb b)) 32
  nb3 : b3 ∉ ([] : List Nat)
  hb4 : Blk u b4 (arr 4 (fun _ => 0)) 32
  nb4 : b4 ∉ ([] : List Nat)
  hb5 : Blk u b5 (arr 4 (fun _ => 0)) 32
  nb5 : b5 ∉ ([] : List Nat)
  H : ∀ (n6 : Nat) (n7 : Nat) (w : World), Kp [] u w → u.heap.size ≤ n6 → Blk w n6 (arr 4 (limb (mm (am a b) (am a b)))) 32 → u.heap.size ≤ n7 → Blk w n7 (arr 4 (limb (mm (sm a b) (sm a b)))) 32 → n6 ≠ n7 → Q .normal { tmps := List.toArray ((.agg (arr 4 (limb a))) :: (.agg (arr 4 (limb b))) :: (.pointer (some ⟨b2, 0, none⟩)) :: (.pointer (some ⟨b3, 0, none⟩)) :: (.pointer (some ⟨b4, 0, none⟩)) :: (.pointer (some ⟨b5, 0, none⟩)) :: (.pointer (some ⟨n6, 0, none⟩)) :: (.pointer (some ⟨n7, 0, none⟩)) :: z8 :: z9 :: (.agg (arr 4 (limb a))) :: (.agg (arr 4 (limb b))) :: (.agg (arr 4 (limb (am a b)))) :: (.agg (arr 4 (limb (mm (am a b) (am a b))))) :: (.agg (arr 4 (limb a))) :: (.agg (arr 4 (limb b))) :: (.agg (arr 4 (limb (sm a b)))) :: (.agg (arr 4 (limb (mm (sm a b) (sm a b))))) :: zz), defers := [] } w
section
variable {Q : Exit → Act → World → Prop} {u : World} {z6 z7 z8 z9 z10 z11 z12 z13 z14 z15 z16 z17 : Value} {zz : List Value} {b2 b3 b4 b5 : Nat} {a b : Nat}
set_option maxRecDepth 100000 in
set_option maxHeartbeats 2000000 in
theorem db1_0 (C : db1C Q u z6 z7 z8 z9 z10 z11 z12 z13 z14 z15 z16 z17 zz b2 b3 b4 b5 a b) {n6 : Nat} {n7 : Nat} (w : World) (hS : Kp [] u w) (gn6 : u.heap.size ≤ n6) (Bn6 : Blk w n6 (arr 4 (limb (mm (am a b) (am a b)))) 32) (gn7 : u.heap.size ≤ n7) (Bn7 : Blk w n7 (arr 4 (limb (mm (sm a b) (sm a b)))) 32) (en6n7 : n6 ≠ n7) :
    wpAnyH Try.prog .any db1Ops Q (Kp [] u) 0 (List.toArray (true :: true :: true :: true :: true :: true :: true :: true :: true :: true :: true :: true :: [])) { tmps := List.toArray ((.agg (arr 4 (limb a))) :: (.agg (arr 4 (limb b))) :: (.pointer (some ⟨b2, 0, none⟩)) :: (.pointer (some ⟨b3, 0, none⟩)) :: (.pointer (some ⟨b4, 0, none⟩)) :: (.pointer (some ⟨b5, 0, none⟩)) :: (.pointer (some ⟨n6, 0, none⟩)) :: (.pointer (some ⟨n7, 0, none⟩)) :: z8 :: z9 :: (.agg (arr 4 (limb a))) :: (.agg (arr 4 (limb b))) :: (.agg (arr 4 (limb (am a b)))) :: (.agg (arr 4 (limb (mm (am a b) (am a b))))) :: (.agg (arr 4 (limb a))) :: (.agg (arr 4 (limb b))) :: (.agg (arr 4 (limb (sm a b)))) :: (.agg (arr 4 (limb (mm (sm a b) (sm a b))))) :: zz), defers := [] } w := by
  exact wpAnyH_done (by kernel_rfl) (C.H n6 n7 w hS gn6 Bn6 gn7 Bn7 en6n7) _
set_option maxRecDepth 100000 in
set_option maxHeartbeats 2000000 in
theorem db1_1 (C : db1C Q u z6 z7 z8 z9 z10 z11 z12 z13 z14 z15 z16 z17 zz b2 b3 b4 b5 a b) {n6 : Nat} {n7 : Nat} (w : World) (hS : Kp [] u w) (gn6 : u.heap.size ≤ n6) (Bn6 : Blk w n6 (arr 4 (limb (mm (am a b) (am a b)))) 32) (gn7 : u.heap.size ≤ n7) (Bn7 : Blk w n7 (arr 4 (fun _ => 0)) 32) (en6n7 : n6 ≠ n7) :
    wpAnyH Try.prog .any db1Ops Q (Kp [] u) 1 (List.toArray (true :: true :: true :: true :: true :: true :: true :: true :: true :: true :: true :: false :: [])) { tmps := List.toArray ((.agg (arr 4 (limb a))) :: (.agg (arr 4 (limb b))) :: (.pointer (some ⟨b2, 0, none⟩)) :: (.pointer (some ⟨b3, 0, none⟩)) :: (.pointer (some ⟨b4, 0, none⟩)) :: (.pointer (some ⟨b5, 0, none⟩)) :: (.pointer (some ⟨n6, 0, none⟩)) :: (.pointer (some ⟨n7, 0, none⟩)) :: z8 :: z9 :: (.agg (arr 4 (limb a))) :: (.agg (arr 4 (limb b))) :: (.agg (arr 4 (limb (am a b)))) :: (.agg (arr 4 (limb (mm (am a b) (am a b))))) :: (.agg (arr 4 (limb a))) :: (.agg (arr 4 (limb b))) :: (.agg (arr 4 (limb (sm a b)))) :: (.agg (arr 4 (limb (mm (sm a b) (sm a b))))) :: zz), defers := [] } w := by
  obtain ⟨hQ, ha, hb, hb2, nb2, hb3, nb3, hb4, nb4, hb5, nb5, _⟩ := id C
  refine wpAnyH_ready (rs := [11]) (by kernel_rfl) (by simp) ?_
  refine AllReadyH.cons (o := db1Op11) rfl (fun K hK => ?_) AllReadyH.nil
  rw [if_pos (by rfl)]
  refine wp_store_row 32 _ _ rfl n7 (arr 4 (limb (mm (sm a b) (sm a b)))) (by kernel_rfl) (by kernel_rfl) 32 _ Bn7 (size_fe _) (by rw [arr_size, arr_size]) (one_fe _) ?_
  have hS' := hS.new gn7 (arr 4 (limb (mm (sm a b) (sm a b))))
  refine hK.out _ _ hS' (fun _ => ?_)
  exact wpAnyH_at (by kernel_rfl) (by kernel_rfl) (db1_0 C (w.setRow n7 (arr 4 (limb (mm (sm a b) (sm a b))))) hS' gn6 (Bn6.rowOther (arr 4 (limb (mm (sm a b) (sm a b)))) (Ne.symm en6n7)) gn7 (Bn7.row (arr 4 (limb (mm (sm a b) (sm a b))))) en6n7)
set_option maxRecDepth 100000 in
set_option maxHeartbeats 2000000 in
theorem db1_2 (C : db1C Q u z6 z7 z8 z9 z10 z11 z12 z13 z14 z15 z16 z17 zz b2 b3 b4 b5 a b) {n6 : Nat} {n7 : Nat} (w : World) (hS : Kp [] u w) (gn6 : u.heap.size ≤ n6) (Bn6 : Blk w n6 (arr 4 (fun _ => 0)) 32) (gn7 : u.heap.size ≤ n7) (Bn7 : Blk w n7 (arr 4 (fun _ => 0)) 32) (en6n7 : n6 ≠ n7) :
    wpAnyH Try.prog .any db1Ops Q (Kp [] u) 2 (List.toArray (true :: true :: true :: true :: true :: true :: true :: true :: true :: true :: false :: false :: [])) { tmps := List.toArray ((.agg (arr 4 (limb a))) :: (.agg (arr 4 (limb b))) :: (.pointer (some ⟨b2, 0, none⟩)) :: (.pointer (some ⟨b3, 0, none⟩)) :: (.pointer (some ⟨b4, 0, none⟩)) :: (.pointer (some ⟨b5, 0, none⟩)) :: (.pointer (some ⟨n6, 0, none⟩)) :: (.pointer (some ⟨n7, 0, none⟩)) :: z8 :: z9 :: (.agg (arr 4 (limb a))) :: (.agg (arr 4 (limb b))) :: (.agg (arr 4 (limb (am a b)))) :: (.agg (arr 4 (limb (mm (am a b) (am a b))))) :: (.agg (arr 4 (limb a))) :: (.agg (arr 4 (limb b))) :: (.agg (arr 4 (limb (sm a b)))) :: (.agg (arr 4 (limb (mm (sm a b) (sm a b))))) :: zz), defers := [] } w := by
  obtain ⟨hQ, ha, hb, hb2, nb2, hb3, nb3, hb4, nb4, hb5, nb5, _⟩ := id C
  refine wpAnyH_ready (rs := [10]) (by kernel_rfl) (by simp) ?_
  refine AllReadyH.cons (o := db1Op10) rfl (fun K hK => ?_) AllReadyH.nil
  rw [if_pos (by rfl)]
  refine wp_store_row 32 _ _ rfl n6 (arr 4 (limb (mm (am a b) (am a b)))) (by kernel_rfl) (by kernel_rfl) 32 _ Bn6 (size_fe _) (by rw [arr_size, arr_size]) (one_fe _) ?_
  have hS' := hS.new gn6 (arr 4 (limb (mm (am a b) (am a b))))
  refine hK.out _ _ hS' (fun _ => ?_)
  exact wpAnyH_at (by kernel_rfl) (by kernel_rfl) (db1_1 C (w.setRow n6 (arr 4 (limb (mm (am a b) (am a b))))) hS' gn6 (Bn6.row (arr 4 (limb (mm (am a b) (am a b))))) gn7 (Bn7.rowOther (arr 4 (limb (mm (am a b) (am a b)))) en6n7) en6n7)
set_option maxRecDepth 100000 in
set_option maxHeartbeats 2000000 in
theorem db1_3 (C : db1C Q u z6 z7 z8 z9 z10 z11 z12 z13 z14 z15 z16 z17 zz b2 b3 b4 b5 a b) {n6 : Nat} {n7 : Nat} (w : World) (hS : Kp [] u w) (gn6 : u.heap.size ≤ n6) (Bn6 : Blk w n6 (arr 4 (fun _ => 0)) 32) (gn7 : u.heap.size ≤ n7) (Bn7 : Blk w n7 (arr 4 (fun _ => 0)) 32) (en6n7 : n6 ≠ n7) :
    wpAnyH Try.prog .any db1Ops Q (Kp [] u) 3 (List.toArray (true :: true :: true :: true :: true :: true :: true :: false :: true :: true :: false :: false :: [])) { tmps := List.toArray ((.agg (arr 4 (limb a))) :: (.agg (arr 4 (limb b))) :: (.pointer (some ⟨b2, 0, none⟩)) :: (.pointer (some ⟨b3, 0, none⟩)) :: (.pointer (some ⟨b4, 0, none⟩)) :: (.pointer (some ⟨b5, 0, none⟩)) :: (.pointer (some ⟨n6, 0, none⟩)) :: (.pointer (some ⟨n7, 0, none⟩)) :: z8 :: z9 :: (.agg (arr 4 (limb a))) :: (.agg (arr 4 (limb b))) :: (.agg (arr 4 (limb (am a b)))) :: (.agg (arr 4 (limb (mm (am a b) (am a b))))) :: (.agg (arr 4 (limb a))) :: (.agg (arr 4 (limb b))) :: (.agg (arr 4 (limb (sm a b)))) :: z17 :: zz), defers := [] } w := by
  obtain ⟨hQ, ha, hb, hb2, nb2, hb3, nb3, hb4, nb4, hb5, nb5, _⟩ := id C
  refine wpAnyH_ready (rs := [7]) (by kernel_rfl) (by simp) ?_
  refine AllReadyH.cons (o := db1Op7) rfl (fun K hK => ?_) AllReadyH.nil
  rw [if_pos (by rfl)]
  refine wp_call_val 23 #[.agg (arr 4 (limb (sm a b)))] (by kernel_rfl) (.agg (arr 4 (limb (mm (sm a b) (sm a b))))) (sq_c (sm a b) _ (sm_lt _ _)) ?_
  intro w' hbw
  have hS' := hS.call hbw
  refine hK.out _ _ hS' (fun _ => ?_)
  exact wpAnyH_at (by kernel_rfl) (by kernel_rfl) (db1_2 C w' hS' gn6 (Bn6.call hbw) gn7 (Bn7.call hbw) en6n7)
set_option maxRecDepth 100000 in
set_option maxHeartbeats 2000000 in
theorem db1_4 (C : db1C Q u z6 z7 z8 z9 z10 z11 z12 z13 z14 z15 z16 z17 zz b2 b3 b4 b5 a b) {n7 : Nat} (w : World) (hS : Kp [] u w) (gn7 : u.heap.size ≤ n7) (Bn7 : Blk w n7 (arr 4 (fun _ => 0)) 32) :
    wpAnyH Try.prog .any db1Ops Q (Kp [] u) 3 (List.toArray (true :: true :: true :: true :: true :: true :: true :: true :: false :: true :: false :: false :: [])) { tmps := List.toArray ((.agg (arr 4 (limb a))) :: (.agg (arr 4 (limb b))) :: (.pointer (some ⟨b2, 0, none⟩)) :: (.pointer (some ⟨b3, 0, none⟩)) :: (.pointer (some ⟨b4, 0, none⟩)) :: (.pointer (some ⟨b5, 0, none⟩)) :: z6 :: (.pointer (some ⟨n7, 0, none⟩)) :: z8 :: z9 :: (.agg (arr 4 (limb a))) :: (.agg (arr 4 (limb b))) :: (.agg (arr 4 (limb (am a b)))) :: (.agg (arr 4 (limb (mm (am a b) (am a b))))) :: (.agg (arr 4 (limb a))) :: (.agg (arr 4 (limb b))) :: (.agg (arr 4 (limb (sm a b)))) :: (.agg (arr 4 (limb (mm (sm a b) (sm a b))))) :: zz), defers := [] } w := by
  obtain ⟨hQ, ha, hb, hb2, nb2, hb3, nb3, hb4, nb4, hb5, nb5, _⟩ := id C
  refine wpAnyH_ready (rs := [8]) (by kernel_rfl) (by simp) ?_
  refine AllReadyH.cons (o := db1Op8) rfl (fun K hK => ?_) AllReadyH.nil
  rw [if_pos (by rfl)]
  refine wp_new _ 32 (alloc_fe _ _ _ rfl) ?_
  intro n6 w' eb Bn6 hbw
  have hS' := hS.call hbw
  refine hK.out _ _ hS' (fun _ => ?_)
  exact wpAnyH_at (by kernel_rfl) (by kernel_rfl) (db1_2 C w' hS' (by rw [eb]; exact hS.size) Bn6 gn7 (Bn7.call hbw) (by rw [eb]; exact Nat.ne_of_gt Bn7.lt))
set_option maxRecDepth 100000 in
set_option maxHeartbeats 2000000 in
theorem db1_5 (C : db1C Q u z6 z7 z8 z9 z10 z11 z12 z13 z14 z15 z16 z17 zz b2 b3 b4 b5 a b) {n6 : Nat} (w : World) (hS : Kp [] u w) (gn6 : u.heap.size ≤ n6) (Bn6 : Blk w n6 (arr 4 (fun _ => 0)) 32) :
    wpAnyH Try.prog .any db1Ops Q (Kp [] u) 3 (List.toArray (true :: true :: true :: true :: true :: true :: true :: true :: true :: false :: false :: false :: [])) { tmps := List.toArray ((.agg (arr 4 (limb a))) :: (.agg (arr 4 (limb b))) :: (.pointer (some ⟨b2, 0, none⟩)) :: (.pointer (some ⟨b3, 0, none⟩)) :: (.pointer (some ⟨b4, 0, none⟩)) :: (.pointer (some ⟨b5, 0, none⟩)) :: (.pointer (some ⟨n6, 0, none⟩)) :: z7 :: z8 :: z9 :: (.agg (arr 4 (limb a))) :: (.agg (arr 4 (limb b))) :: (.agg (arr 4 (limb (am a b)))) :: (.agg (arr 4 (limb (mm (am a b) (am a b))))) :: (.agg (arr 4 (limb a))) :: (.agg (arr 4 (limb b))) :: (.agg (arr 4 (limb (sm a b)))) :: (.agg (arr 4 (limb (mm (sm a b) (sm a b))))) :: zz), defers := [] } w := by
  obtain ⟨hQ, ha, hb, hb2, nb2, hb3, nb3, hb4, nb4, hb5, nb5, _⟩ := id C
  refine wpAnyH_ready (rs := [9]) (by kernel_rfl) (by simp) ?_
  refine AllReadyH.cons (o := db1Op9) rfl (fun K hK => ?_) AllReadyH.nil
  rw [if_pos (by rfl)]
  refine wp_new _ 32 (alloc_fe _ _ _ rfl) ?_
  intro n7 w' eb Bn7 hbw
  have hS' := hS.call hbw
  refine hK.out _ _ hS' (fun _ => ?_)
  exact wpAnyH_at (by kernel_rfl) (by kernel_rfl) (db1_2 C w' hS' gn6 (Bn6.call hbw) (by rw [eb]; exact hS.size) Bn7 (by rw [eb]; exact Nat.ne_of_lt Bn6.lt))
set_option maxRecDepth 100000 in
set_option maxHeartbeats 2000000 in
theorem db1_6 (C : db1C Q u z6 z7 z8 z9 z10 z11 z12 z13 z14 z15 z16 z17 zz b2 b3 b4 b5 a b) {n6 : Nat} {n7 : Nat} (w : World) (hS : Kp [] u w) (gn6 : u.heap.size ≤ n6) (Bn6 : Blk w n6 (arr 4 (fun _ => 0)) 32) (gn7 : u.heap.size ≤ n7) (Bn7 : Blk w n7 (arr 4 (fun _ => 0)) 32) (en6n7 : n6 ≠ n7) :
    wpAnyH Try.prog .any db1Ops Q (Kp [] u) 4 (List.toArray (true :: true :: true :: true :: true :: true :: false :: false :: true :: true :: false :: false :: [])) { tmps := List.toArray ((.agg (arr 4 (limb a))) :: (.agg (arr 4 (limb b))) :: (.pointer (some ⟨b2, 0, none⟩)) :: (.pointer (some ⟨b3, 0, none⟩)) :: (.pointer (some ⟨b4, 0, none⟩)) :: (.pointer (some ⟨b5, 0, none⟩)) :: (.pointer (some ⟨n6, 0, none⟩)) :: (.pointer (some ⟨n7, 0, none⟩)) :: z8 :: z9 :: (.agg (arr 4 (limb a))) :: (.agg (arr 4 (limb b))) :: (.agg (arr 4 (limb (am a b)))) :: (.agg (arr 4 (limb (mm (am a b) (am a b))))) :: (.agg (arr 4 (limb a))) :: (.agg (arr 4 (limb b))) :: z16 :: z17 :: zz), defers := [] } w := by
  obtain ⟨hQ, ha, hb, hb2, nb2, hb3, nb3, hb4, nb4, hb5, nb5, _⟩ := id C
  refine wpAnyH_ready (rs := [6]) (by kernel_rfl) (by simp) ?_
  refine AllReadyH.cons (o := db1Op6) rfl (fun K hK => ?_) AllReadyH.nil
  rw [if_pos (by rfl)]
  refine wp_call_val 26 #[.agg (arr 4 (limb a)), .agg (arr 4 (limb b))] (by kernel_rfl) (.agg (arr 4 (limb (sm a b)))) (sub_c a b _ ha hb) ?_
  intro w' hbw
  have hS' := hS.call hbw
  refine hK.out _ _ hS' (fun _ => ?_)
  exact wpAnyH_at (by kernel_rfl) (by kernel_rfl) (db1_3 C w' hS' gn6 (Bn6.call hbw) gn7 (Bn7.call hbw) en6n7)
set_option maxRecDepth 100000 in
set_option maxHeartbeats 2000000 in
theorem db1_7 (C : db1C Q u z6 z7 z8 z9 z10 z11 z12 z13 z14 z15 z16 z17 zz b2 b3 b4 b5 a b) {n7 : Nat} (w : World) (hS : Kp [] u w) (gn7 : u.heap.size ≤ n7) (Bn7 : Blk w n7 (arr 4 (fun _ => 0)) 32) :
    wpAnyH Try.prog .any db1Ops Q (Kp [] u) 4 (List.toArray (true :: true :: true :: true :: true :: true :: true :: false :: false :: true :: false :: false :: [])) { tmps := List.toArray ((.agg (arr 4 (limb a))) :: (.agg (arr 4 (limb b))) :: (.pointer (some ⟨b2, 0, none⟩)) :: (.pointer (some ⟨b3, 0, none⟩)) :: (.pointer (some ⟨b4, 0, none⟩)) :: (.pointer (some ⟨b5, 0, none⟩)) :: z6 :: (.pointer (some ⟨n7, 0, none⟩)) :: z8 :: z9 :: (.agg (arr 4 (limb a))) :: (.agg (arr 4 (limb b))) :: (.agg (arr 4 (limb (am a b)))) :: (.agg (arr 4 (limb (mm (am a b) (am a b))))) :: (.agg (arr 4 (limb a))) :: (.agg (arr 4 (limb b))) :: (.agg (arr 4 (limb (sm a b)))) :: z17 :: zz), defers := [] } w := by
  obtain ⟨hQ, ha, hb, hb2, nb2, hb3, nb3, hb4, nb4, hb5, nb5, _⟩ := id C
  refine wpAnyH_ready (rs := [7, 8]) (by kernel_rfl) (by simp) ?_
  refine AllReadyH.cons (o := db1Op7) rfl (fun K hK => ?_) ?_
  · skip
    rw [if_pos (by rfl)]
    refine wp_call_val 23 #[.agg (arr 4 (limb (sm a b)))] (by kernel_rfl) (.agg (arr 4 (limb (mm (sm a b) (sm a b))))) (sq_c (sm a b) _ (sm_lt _ _)) ?_
    intro w' hbw
    have hS' := hS.call hbw
    refine hK.out _ _ hS' (fun _ => ?_)
    exact wpAnyH_at (by kernel_rfl) (by kernel_rfl) (db1_4 C w' hS' gn7 (Bn7.call hbw))
  refine AllReadyH.cons (o := db1Op8) rfl (fun K hK => ?_) AllReadyH.nil
  rw [if_pos (by rfl)]
  refine wp_new _ 32 (alloc_fe _ _ _ rfl) ?_
  intro n6 w' eb Bn6 hbw
  have hS' := hS.call hbw
  refine hK.out _ _ hS' (fun _ => ?_)
  exact wpAnyH_at (by kernel_rfl) (by kernel_rfl) (db1_3 C w' hS' (by rw [eb]; exact hS.size) Bn6 gn7 (Bn7.call hbw) (by rw [eb]; exact Nat.ne_of_gt Bn7.lt))
set_option maxRecDepth 100000 in
set_option maxHeartbeats 2000000 in
theorem db1_8 (C : db1C Q u z6 z7 z8 z9 z10 z11 z12 z13 z14 z15 z16 z17 zz b2 b3 b4 b5 a b) {n6 : Nat} (w : World) (hS : Kp [] u w) (gn6 : u.heap.size ≤ n6) (Bn6 : Blk w n6 (arr 4 (fun _ => 0)) 32) :
    wpAnyH Try.prog .any db1Ops Q (Kp [] u) 4 (List.toArray (true :: true :: true :: true :: true :: true :: true :: false :: true :: false :: false :: false :: [])) { tmps := List.toArray ((.agg (arr 4 (limb a))) :: (.agg (arr 4 (limb b))) :: (.pointer (some ⟨b2, 0, none⟩)) :: (.pointer (some ⟨b3, 0, none⟩)) :: (.pointer (some ⟨b4, 0, none⟩)) :: (.pointer (some ⟨b5, 0, none⟩)) :: (.pointer (some ⟨n6, 0, none⟩)) :: z7 :: z8 :: z9 :: (.agg (arr 4 (limb a))) :: (.agg (arr 4 (limb b))) :: (.agg (arr 4 (limb (am a b)))) :: (.agg (arr 4 (limb (mm (am a b) (am a b))))) :: (.agg (arr 4 (limb a))) :: (.agg (arr 4 (limb b))) :: (.agg (arr 4 (limb (sm a b)))) :: z17 :: zz), defers := [] } w := by
  obtain ⟨hQ, ha, hb, hb2, nb2, hb3, nb3, hb4, nb4, hb5, nb5, _⟩ := id C
  refine wpAnyH_ready (rs := [7, 9]) (by kernel_rfl) (by simp) ?_
  refine AllReadyH.cons (o := db1Op7) rfl (fun K hK => ?_) ?_
  · skip
    rw [if_pos (by rfl)]
    refine wp_call_val 23 #[.agg (arr 4 (limb (sm a b)))] (by kernel_rfl) (.agg (arr 4 (limb (mm (sm a b) (sm a b))))) (sq_c (sm a b) _ (sm_lt _ _)) ?_
    intro w' hbw
    have hS' := hS.call hbw
    refine hK.out _ _ hS' (fun _ => ?_)
    exact wpAnyH_at (by kernel_rfl) (by kernel_rfl) (db1_5 C w' hS' gn6 (Bn6.call hbw))
  refine AllReadyH.cons (o := db1Op9) rfl (fun K hK => ?_) AllReadyH.nil
  rw [if_pos (by rfl)]
  refine wp_new _ 32 (alloc_fe _ _ _ rfl) ?_
  intro n7 w' eb Bn7 hbw
  have hS' := hS.call hbw
  refine hK.out _ _ hS' (fun _ => ?_)
  exact wpAnyH_at (by kernel_rfl) (by kernel_rfl) (db1_3 C w' hS' gn6 (Bn6.call hbw) (by rw [eb]; exact hS.size) Bn7 (by rw [eb]; exact Nat.ne_of_lt Bn6.lt))
set_option maxRecDepth 100000 in
set_option maxHeartbeats 2000000 in
theorem db1_9 (C : db1C Q u z6 z7 z8 z9 z10 z11 z12 z13 z14 z15 z16 z17 zz b2 b3 b4 b5 a b) (w : World) (hS : Kp [] u w) :
    wpAnyH Try.prog .any db1Ops Q (Kp [] u) 4 (List.toArray (true :: true :: true :: true :: true :: true :: true :: true :: false :: false :: false :: false :: [])) { tmps := List.toArray ((.agg (arr 4 (limb a))) :: (.agg (arr 4 (limb b))) :: (.pointer (some ⟨b2, 0, none⟩)) :: (.pointer (some ⟨b3, 0, none⟩)) :: (.pointer (some ⟨b4, 0, none⟩)) :: (.pointer (some ⟨b5, 0, none⟩)) :: z6 :: z7 :: z8 :: z9 :: (.agg (arr 4 (limb a))) :: (.agg (arr 4 (limb b))) :: (.agg (arr 4 (limb (am a b)))) :: (.agg (arr 4 (limb (mm (am a b) (am a b))))) :: (.agg (arr 4 (limb a))) :: (.agg (arr 4 (limb b))) :: (.agg (arr 4 (limb (sm a b)))) :: (.agg (arr 4 (limb (mm (sm a b) (sm a b))))) :: zz), defers := [] } w := by
  obtain ⟨hQ, ha, hb, hb2, nb2, hb3, nb3, hb4, nb4, hb5, nb5, _⟩ := id C
  refine wpAnyH_ready (rs := [8, 9]) (by kernel_rfl) (by simp) ?_
  refine AllReadyH.cons (o := db1Op8) rfl (fun K hK => ?_) ?_
  · skip
    rw [if_pos (by rfl)]
    refine wp_new _ 32 (alloc_fe _ _ _ rfl) ?_
    intro n6 w' eb Bn6 hbw
    have hS' := hS.call hbw
    refine hK.out _ _ hS' (fun _ => ?_)
    exact wpAnyH_at (by kernel_rfl) (by kernel_rfl) (db1_5 C w' hS' (by rw [eb]; exact hS.size) Bn6)
  refine AllReadyH.cons (o := db1Op9) rfl (fun K hK => ?_) AllReadyH.nil
  rw [if_pos (by rfl)]
  refine wp_new _ 32 (alloc_fe _ _ _ rfl) ?_
  intro n7 w' eb Bn7 hbw
  have hS' := hS.call hbw
  refine hK.out _ _ hS' (fun _ => ?_)
  exact wpAnyH_at (by kernel_rfl) (by kernel_rfl) (db1_4 C w' hS' (by rw [eb]; exact hS.size) Bn7)
set_option maxRecDepth 100000 in
set_option maxHeartbeats 2000000 in
theorem db1_10 (C : db1C Q u z6 z7 z8 z9 z10 z11 z12 z13 z14 z15 z16 z17 zz b2 b3 b4 b5 a b) {n6 : Nat} {n7 : Nat} (w : World) (hS : Kp [] u w) (gn6 : u.heap.size ≤ n6) (Bn6 : Blk w n6 (arr 4 (fun _ => 0)) 32) (gn7 : u.heap.size ≤ n7) (Bn7 : Blk w n7 (arr 4 (fun _ => 0)) 32) (en6n7 : n6 ≠ n7) :
    wpAnyH Try.prog .any db1Ops Q (Kp [] u) 5 (List.toArray (true :: true :: true :: false :: true :: true :: false :: false :: true :: true :: false :: false :: [])) { tmps := List.toArray ((.agg (arr 4 (limb a))) :: (.agg (arr 4 (limb b))) :: (.pointer (some ⟨b2, 0, none⟩)) :: (.pointer (some ⟨b3, 0, none⟩)) :: (.pointer (some ⟨b4, 0, none⟩)) :: (.pointer (some ⟨b5, 0, none⟩)) :: (.pointer (some ⟨n6, 0, none⟩)) :: (.pointer (some ⟨n7, 0, none⟩)) :: z8 :: z9 :: (.agg (arr 4 (limb a))) :: (.agg (arr 4 (limb b))) :: (.agg (arr 4 (limb (am a b)))) :: z13 :: (.agg (arr 4 (limb a))) :: (.agg (arr 4 (limb b))) :: z16 :: z17 :: zz), defers := [] } w := by
  obtain ⟨hQ, ha, hb, hb2, nb2, hb3, nb3, hb4, nb4, hb5, nb5, _⟩ := id C
  refine wpAnyH_ready (rs := [3]) (by kernel_rfl) (by simp) ?_
  refine AllReadyH.cons (o := db1Op3) rfl (fun K hK => ?_) AllReadyH.nil
  rw [if_pos (by rfl)]
  refine wp_call_val 23 #[.agg (arr 4 (limb (am a b)))] (by kernel_rfl) (.agg (arr 4 (limb (mm (am a b) (am a b))))) (sq_c (am a b) _ (am_lt _ _)) ?_
  intro w' hbw
  have hS' := hS.call hbw
  refine hK.out _ _ hS' (fun _ => ?_)
  exact wpAnyH_at (by kernel_rfl) (by kernel_rfl) (db1_6 C w' hS' gn6 (Bn6.call hbw) gn7 (Bn7.call hbw) en6n7)
set_option maxRecDepth 100000 in
set_option maxHeartbeats 2000000 in
theorem db1_11 (C : db1C Q u z6 z7 z8 z9 z10 z11 z12 z13 z14 z15 z16 z17 zz b2 b3 b4 b5 a b) {n7 : Nat} (w : World) (hS : Kp [] u w) (gn7 : u.heap.size ≤ n7) (Bn7 : Blk w n7 (arr 4 (fun _ => 0)) 32) :
    wpAnyH Try.prog .any db1Ops Q (Kp [] u) 5 (List.toArray (true :: true :: true :: true :: true :: true :: false :: false :: false :: true :: false :: false :: [])) { tmps := List.toArray ((.agg (arr 4 (limb a))) :: (.agg (arr 4 (limb b))) :: (.pointer (some ⟨b2, 0, none⟩)) :: (.pointer (some ⟨b3, 0, none⟩)) :: (.pointer (some ⟨b4, 0, none⟩)) :: (.pointer (some ⟨b5, 0, none⟩)) :: z6 :: (.pointer (some ⟨n7, 0, none⟩)) :: z8 :: z9 :: (.agg (arr 4 (limb a))) :: (.agg (arr 4 (limb b))) :: (.agg (arr 4 (limb (am a b)))) :: (.agg (arr 4 (limb (mm (am a b) (am a b))))) :: (.agg (arr 4 (limb a))) :: (.agg (arr 4 (limb b))) :: z16 :: z17 :: zz), defers := [] } w := by
  obtain ⟨hQ, ha, hb, hb2, nb2, hb3, nb3, hb4, nb4, hb5, nb5, _⟩ := id C
  refine wpAnyH_ready (rs := [6, 8]) (by kernel_rfl) (by simp) ?_
  refine AllReadyH.cons (o := db1Op6) rfl (fun K hK => ?_) ?_
  · skip
    rw [if_pos (by rfl)]
    refine wp_call_val 26 #[.agg (arr 4 (limb a)), .agg (arr 4 (limb b))] (by kernel_rfl) (.agg (arr 4 (limb (sm a b)))) (sub_c a b _ ha hb) ?_
    intro w' hbw
    have hS' := hS.call hbw
    refine hK.out _ _ hS' (fun _ => ?_)
    exact wpAnyH_at (by kernel_rfl) (by kernel_rfl) (db1_7 C w' hS' gn7 (Bn7.call hbw))
  refine AllReadyH.cons (o := db1Op8) rfl (fun K hK => ?_) AllReadyH.nil
  rw [if_pos (by rfl)]
  refine wp_new _ 32 (alloc_fe _ _ _ rfl) ?_
  intro n6 w' eb Bn6 hbw
  have hS' := hS.call hbw
  refine hK.out _ _ hS' (fun _ => ?_)
  exact wpAnyH_at (by kernel_rfl) (by kernel_rfl) (db1_6 C w' hS' (by rw [eb]; exact hS.size) Bn6 gn7 (Bn7.call hbw) (by rw [eb]; exact Nat.ne_of_gt Bn7.lt))
set_option maxRecDepth 100000 in
set_option maxHeartbeats 2000000 in
theorem db1_12 (C : db1C Q u z6 z7 z8 z9 z10 z11 z12 z13 z14 z15 z16 z17 zz b2 b3 b4 b5 a b) {n6 : Nat} (w : World) (hS : Kp [] u w) (gn6 : u.heap.size ≤ n6) (Bn6 : Blk w n6 (arr 4 (fun _ => 0)) 32) :
    wpAnyH Try.prog .any db1Ops Q (Kp [] u) 5 (List.toArray (true :: true :: true :: true :: true :: true :: false :: false :: true :: false :: false :: false :: [])) { tmps := List.toArray ((.agg (arr 4 (limb a))) :: (.agg (arr 4 (limb b))) :: (.pointer (some ⟨b2, 0, none⟩)) :: (.pointer (some ⟨b3, 0, none⟩)) :: (.pointer (some ⟨b4, 0, none⟩)) :: (.pointer (some ⟨b5, 0, none⟩)) :: (.pointer (some ⟨n6, 0, none⟩)) :: z7 :: z8 :: z9 :: (.agg (arr 4 (limb a))) :: (.agg (arr 4 (limb b))) :: (.agg (arr 4 (limb (am a b)))) :: (.agg (arr 4 (limb (mm (am a b) (am a b))))) :: (.agg (arr 4 (limb a))) :: (.agg (arr 4 (limb b))) :: z16 :: z17 :: zz), defers := [] } w := by
  obtain ⟨hQ, ha, hb, hb2, nb2, hb3, nb3, hb4, nb4, hb5, nb5, _⟩ := id C
  refine wpAnyH_ready (rs := [6, 9]) (by kernel_rfl) (by simp) ?_
  refine AllReadyH.cons (o := db1Op6) rfl (fun K hK => ?_) ?_
  · skip
    rw [if_pos (by rfl)]
    refine wp_call_val 26 #[.agg (arr 4 (limb a)), .agg (arr 4 (limb b))] (by kernel_rfl) (.agg (arr 4 (limb (sm a b)))) (sub_c a b _ ha hb) ?_
    intro w' hbw
    have hS' := hS.call hbw
    refine hK.out _ _ hS' (fun _ => ?_)
    exact wpAnyH_at (by kernel_rfl) (by kernel_rfl) (db1_8 C w' hS' gn6 (Bn6.call hbw))
  refine AllReadyH.cons (o := db1Op9) rfl (fun K hK => ?_) AllReadyH.nil
  rw [if_pos (by rfl)]
  refine wp_new _ 32 (alloc_fe _ _ _ rfl) ?_
  intro n7 w' eb Bn7 hbw
  have hS' := hS.call hbw
  refine hK.out _ _ hS' (fun _ => ?_)
  exact wpAnyH_at (by kernel_rfl) (by kernel_rfl) (db1_6 C w' hS' gn6 (Bn6.call hbw) (by rw [eb]; exact hS.size) Bn7 (by rw [eb]; exact Nat.ne_of_lt Bn6.lt))
set_option maxRecDepth 100000 in
set_option maxHeartbeats 2000000 in
theorem db1_13 (C : db1C Q u z6 z7 z8 z9 z10 z11 z12 z13 z14 z15 z16 z17 zz b2 b3 b4 b5 a b) (w : World) (hS : Kp [] u w) :
    wpAnyH Try.prog .any db1Ops Q (Kp [] u) 5 (List.toArray (true :: true :: true :: true :: true :: true :: true :: false :: false :: false :: false :: false :: [])) { tmps := List.toArray ((.agg (arr 4 (limb a))) :: (.agg (arr 4 (limb b))) :: (.pointer (some ⟨b2, 0, none⟩)) :: (.pointer (some ⟨b3, 0, none⟩)) :: (.pointer (some ⟨b4, 0, none⟩)) :: (.pointer (some ⟨b5, 0, none⟩)) :: z6 :: z7 :: z8 :: z9 :: (.agg (arr 4 (limb a))) :: (.agg (arr 4 (limb b))) :: (.agg (arr 4 (limb (am a b)))) :: (.agg (arr 4 (limb (mm (am a b) (am a b))))) :: (.agg (arr 4 (limb a))) :: (.agg (arr 4 (limb b))) :: (.agg (arr 4 (limb (sm a b)))) :: z17 :: zz), defers := [] } w := by
  obtain ⟨hQ, ha, hb, hb2, nb2, hb3, nb3, hb4, nb4, hb5, nb5, _⟩ := id C
  refine wpAnyH_ready (rs := [7, 8, 9]) (by kernel_rfl) (by simp) ?_
  refine AllReadyH.cons (o := db1Op7) rfl (fun K hK => ?_) ?_
  · skip
    rw [if_pos (by rfl)]
    refine wp_call_val 23 #[.agg (arr 4 (limb (sm a b)))] (by kernel_rfl) (.agg (arr 4 (limb (mm (sm a b) (sm a b))))) (sq_c (sm a b) _ (sm_lt _ _)) ?_
    intro w' hbw
    have hS' := hS.call hbw
    refine hK.out _ _ hS' (fun _ => ?_)
    exact wpAnyH_at (by kernel_rfl) (by kernel_rfl) (db1_9 C w' hS' )
  refine AllReadyH.cons (o := db1Op8) rfl (fun K hK => ?_) ?_
  · skip
    rw [if_pos (by rfl)]
    refine wp_new _ 32 (alloc_fe _ _ _ rfl) ?_
    intro n6 w' eb Bn6 hbw
    have hS' := hS.call hbw
    refine hK.out _ _ hS' (fun _ => ?_)
    exact wpAnyH_at (by kernel_rfl) (by kernel_rfl) (db1_8 C w' hS' (by rw [eb]; exact hS.size) Bn6)
  refine AllReadyH.cons (o := db1Op9) rfl (fun K hK => ?_) AllReadyH.nil
  rw [if_pos (by rfl)]
  refine wp_new _ 32 (alloc_fe _ _ _ rfl) ?_
  intro n7 w' eb Bn7 hbw
  have hS' := hS.call hbw
  refine hK.out _ _ hS' (fun _ => ?_)
  exact wpAnyH_at (by kernel_rfl) (by kernel_rfl) (db1_7 C w' hS' (by rw [eb]; exact hS.size) Bn7)
set_option maxRecDepth 100000 in
set_option maxHeartbeats 2000000 in
theorem db1_14 (C : db1C Q u z6 z7 z8 z9 z10 z11 z12 z13 z14 z15 z16 z17 zz b2 b3 b4 b5 a b) {n6 : Nat} {n7 : Nat} (w : World) (hS : Kp [] u w) (gn6 : u.heap.size ≤ n6) (Bn6 : Blk w n6 (arr 4 (fun _ => 0)) 32) (gn7 : u.heap.size ≤ n7) (Bn7 : Blk w n7 (arr 4 (fun _ => 0)) 32) (en6n7 : n6 ≠ n7) :
    wpAnyH Try.prog .any db1Ops Q (Kp [] u) 6 (List.toArray (true :: true :: false :: false :: true :: true :: false :: false :: true :: true :: false :: false :: [])) { tmps := List.toArray ((.agg (arr 4 (limb a))) :: (.agg (arr 4 (limb b))) :: (.pointer (some ⟨b2, 0, none⟩)) :: (.pointer (some ⟨b3, 0, none⟩)) :: (.pointer (some ⟨b4, 0, none⟩)) :: (.pointer (some ⟨b5, 0, none⟩)) :: (.pointer (some ⟨n6, 0, none⟩)) :: (.pointer (some ⟨n7, 0, none⟩)) :: z8 :: z9 :: (.agg (arr 4 (limb a))) :: (.agg (arr 4 (limb b))) :: z12 :: z13 :: (.agg (arr 4 (limb a))) :: (.agg (arr 4 (limb b))) :: z16 :: z17 :: zz), defers := [] } w := by
  obtain ⟨hQ, ha, hb, hb2, nb2, hb3, nb3, hb4, nb4, hb5, nb5, _⟩ := id C
  refine wpAnyH_ready (rs := [2]) (by kernel_rfl) (by simp) ?_
  refine AllReadyH.cons (o := db1Op2) rfl (fun K hK => ?_) AllReadyH.nil
  rw [if_pos (by rfl)]
  refine wp_call_val 24 #[.agg (arr 4 (limb a)), .agg (arr 4 (limb b))] (by kernel_rfl) (.agg (arr 4 (limb (am a b)))) (add_c a b _ ha hb) ?_
  intro w' hbw
  have hS' := hS.call hbw
  refine hK.out _ _ hS' (fun _ => ?_)
  exact wpAnyH_at (by kernel_rfl) (by kernel_rfl) (db1_10 C w' hS' gn6 (Bn6.call hbw) gn7 (Bn7.call hbw) en6n7)
set_option maxRecDepth 100000 in
set_option maxHeartbeats 2000000 in
theorem db1_15 (C : db1C Q u z6 z7 z8 z9 z10 z11 z12 z13 z14 z15 z16 z17 zz b2 b3 b4 b5 a b) {n7 : Nat} (w : World) (hS : Kp [] u w) (gn7 : u.heap.size ≤ n7) (Bn7 : Blk w n7 (arr 4 (fun _ => 0)) 32) :
    wpAnyH Try.prog .any db1Ops Q (Kp [] u) 6 (List.toArray (true :: true :: true :: false :: true :: true :: false :: false :: false :: true :: false :: false :: [])) { tmps := List.toArray ((.agg (arr 4 (limb a))) :: (.agg (arr 4 (limb b))) :: (.pointer (some ⟨b2, 0, none⟩)) :: (.pointer (some ⟨b3, 0, none⟩)) :: (.pointer (some ⟨b4, 0, none⟩)) :: (.pointer (some ⟨b5, 0, none⟩)) :: z6 :: (.pointer (some ⟨n7, 0, none⟩)) :: z8 :: z9 :: (.agg (arr 4 (limb a))) :: (.agg (arr 4 (limb b))) :: (.agg (arr 4 (limb (am a b)))) :: z13 :: (.agg (arr 4 (limb a))) :: (.agg (arr 4 (limb b))) :: z16 :: z17 :: zz), defers := [] } w := by
  obtain ⟨hQ, ha, hb, hb2, nb2, hb3, nb3, hb4, nb4, hb5, nb5, _⟩ := id C
  refine wpAnyH_ready (rs := [3, 8]) (by kernel_rfl) (by simp) ?_
  refine AllReadyH.cons (o := db1Op3) rfl (fun K hK => ?_) ?_
  · skip
    rw [if_pos (by rfl)]
    refine wp_call_val 23 #[.agg (arr 4 (limb (am a b)))] (by kernel_rfl) (.agg (arr 4 (limb (mm (am a b) (am a b))))) (sq_c (am a b) _ (am_lt _ _)) ?_
    intro w' hbw
    have hS' := hS.call hbw
    refine hK.out _ _ hS' (fun _ => ?_)
    exact wpAnyH_at (by kernel_rfl) (by kernel_rfl) (db1_11 C w' hS' gn7 (Bn7.call hbw))
  refine AllReadyH.cons (o := db1Op8) rfl (fun K hK => ?_) AllReadyH.nil
  rw [if_pos (by rfl)]
  refine wp_new _ 32 (alloc_fe _ _ _ rfl) ?_
  intro n6 w' eb Bn6 hbw
  have hS' := hS.call hbw
  refine hK.out _ _ hS' (fun _ => ?_)
  exact wpAnyH_at (by kernel_rfl) (by kernel_rfl) (db1_10 C w' hS' (by rw [eb]; exact hS.size) Bn6 gn7 (Bn7.call hbw) (by rw [eb]; exact Nat.ne_of_gt Bn7.lt))
set_option maxRecDepth 100000 in
set_option maxHeartbeats 2000000 in
theorem db1_16 (C : db1C Q u z6 z7 z8 z9 z10 z11 z12 z13 z14 z15 z16 z17 zz b2 b3 b4 b5 a b) {n6 : Nat} (w : World) (hS : Kp [] u w) (gn6 : u.heap.size ≤ n6) (Bn6 : Blk w n6 (arr 4 (fun _ => 0)) 32) :
    wpAnyH Try.prog .any db1Ops Q (Kp [] u) 6 (List.toArray (true :: true :: true :: false :: true :: true :: false :: false :: true :: false :: false :: false :: [])) { tmps := List.toArray ((.agg (arr 4 (limb a))) :: (.agg (arr 4 (limb b))) :: (.pointer (some ⟨b2, 0, none⟩)) :: (.pointer (some ⟨b3, 0, none⟩)) :: (.pointer (some ⟨b4, 0, none⟩)) :: (.pointer (some ⟨b5, 0, none⟩)) :: (.pointer (some ⟨n6, 0, none⟩)) :: z7 :: z8 :: z9 :: (.agg (arr 4 (limb a))) :: (.agg (arr 4 (limb b))) :: (.agg (arr 4 (limb (am a b)))) :: z13 :: (.agg (arr 4 (limb a))) :: (.agg (arr 4 (limb b))) :: z16 :: z17 :: zz), defers := [] } w := by
  obtain ⟨hQ, ha, hb, hb2, nb2, hb3, nb3, hb4, nb4, hb5, nb5, _⟩ := id C
  refine wpAnyH_ready (rs := [3, 9]) (by kernel_rfl) (by simp) ?_
  refine AllReadyH.cons (o := db1Op3) rfl (fun K hK => ?_) ?_
  · skip
    rw [if_pos (by rfl)]
    refine wp_call_val 23 #[.agg (arr 4 (limb (am a b)))] (by kernel_rfl) (.agg (arr 4 (limb (mm (am a b) (am a b))))) (sq_c (am a b) _ (am_lt _ _)) ?_
    intro w' hbw
    have hS' := hS.call hbw
    refine hK.out _ _ hS' (fun _ => ?_)
    exact wpAnyH_at (by kernel_rfl) (by kernel_rfl) (db1_12 C w' hS' gn6 (Bn6.call hbw))
  refine AllReadyH.cons (o := db1Op9) rfl (fun K hK => ?_) AllReadyH.nil
  rw [if_pos (by rfl)]
  refine wp_new _ 32 (alloc_fe _ _ _ rfl) ?_
  intro n7 w' eb Bn7 hbw
  have hS' := hS.call hbw
  refine hK.out _ _ hS' (fun _ => ?_)
  exact wpAnyH_at (by kernel_rfl) (by kernel_rfl) (db1_10 C w' hS' gn6 (Bn6.call hbw) (by rw [eb]; exact hS.size) Bn7 (by rw [eb]; exact Nat.ne_of_lt Bn6.lt))
set_option maxRecDepth 100000 in
set_option maxHeartbeats 2000000 in
theorem db1_17 (C : db1C Q u z6 z7 z8 z9 z10 z11 z12 z13 z14 z15 z16 z17 zz b2 b3 b4 b5 a b) (w : World) (hS : Kp [] u w) :
    wpAnyH Try.prog .any db1Ops Q (Kp [] u) 6 (List.toArray (true :: true :: true :: true :: true :: true :: false :: false :: false :: false :: false :: false :: [])) { tmps := List.toArray ((.agg (arr 4 (limb a))) :: (.agg (arr 4 (limb b))) :: (.pointer (some ⟨b2, 0, none⟩)) :: (.pointer (some ⟨b3, 0, none⟩)) :: (.pointer (some ⟨b4, 0, none⟩)) :: (.pointer (some ⟨b5, 0, none⟩)) :: z6 :: z7 :: z8 :: z9 :: (.agg (arr 4 (limb a))) :: (.agg (arr 4 (limb b))) :: (.agg (arr 4 (limb (am a b)))) :: (.agg (arr 4 (limb (mm (am a b) (am a b))))) :: (.agg (arr 4 (limb a))) :: (.agg (arr 4 (limb b))) :: z16 :: z17 :: zz), defers := [] } w := by
  obtain ⟨hQ, ha, hb, hb2, nb2, hb3, nb3, hb4, nb4, hb5, nb5, _⟩ := id C
  refine wpAnyH_ready (rs := [6, 8, 9]) (by kernel_rfl) (by simp) ?_
  refine AllReadyH.cons (o := db1Op6) rfl (fun K hK => ?_) ?_
  · skip
    rw [if_pos (by rfl)]
    refine wp_call_val 26 #[.agg (arr 4 (limb a)), .agg (arr 4 (limb b))] (by kernel_rfl) (.agg (arr 4 (limb (sm a b)))) (sub_c a b _ ha hb) ?_
    intro w' hbw
    have hS' := hS.call hbw
    refine hK.out _ _ hS' (fun _ => ?_)
    exact wpAnyH_at (by kernel_rfl) (by kernel_rfl) (db1_13 C w' hS' )
  refine AllReadyH.cons (o := db1Op8) rfl (fun K hK => ?_) ?_
  · skip
    rw [if_pos (by rfl)]
    refine wp_new _ 32 (alloc_fe _ _ _ rfl) ?_
    intro n6 w' eb Bn6 hbw
    have hS' := hS.call hbw
    refine hK.out _ _ hS' (fun _ => ?_)
    exact wpAnyH_at (by kernel_rfl) (by kernel_rfl) (db1_12 C w' hS' (by rw [eb]; exact hS.size) Bn6)
  refine AllReadyH.cons (o := db1Op9) rfl (fun K hK => ?_) AllReadyH.nil
  rw [if_pos (by rfl)]
  refine wp_new _ 32 (alloc_fe _ _ _ rfl) ?_
  intro n7 w' eb Bn7 hbw
  have hS' := hS.call hbw
  refine hK.out _ _ hS' (fun _ => ?_)
  exact wpAnyH_at (by kernel_rfl) (by kernel_rfl) (db1_11 C w' hS' (by rw [eb]; exact hS.size) Bn7)
set_option maxRecDepth 100000 in
set_option maxHeartbeats 2000000 in
theorem db1_18 (C : db1C Q u z6 z7 z8 z9 z10 z11 z12 z13 z14 z15 z16 z17 zz b2 b3 b4 b5 a b) {n7 : Nat} (w : World) (hS : Kp [] u w) (gn7 : u.heap.size ≤ n7) (Bn7 : Blk w n7 (arr 4 (fun _ => 0)) 32) :
    wpAnyH Try.prog .any db1Ops Q (Kp [] u) 7 (List.toArray (true :: true :: false :: false :: true :: true :: false :: false :: false :: true :: false :: false :: [])) { tmps := List.toArray ((.agg (arr 4 (limb a))) :: (.agg (arr 4 (limb b))) :: (.pointer (some ⟨b2, 0, none⟩)) :: (.pointer (some ⟨b3, 0, none⟩)) :: (.pointer (some ⟨b4, 0, none⟩)) :: (.pointer (some ⟨b5, 0, none⟩)) :: z6 :: (.pointer (some ⟨n7, 0, none⟩)) :: z8 :: z9 :: (.agg (arr 4 (limb a))) :: (.agg (arr 4 (limb b))) :: z12 :: z13 :: (.agg (arr 4 (limb a))) :: (.agg (arr 4 (limb b))) :: z16 :: z17 :: zz), defers := [] } w := by
  obtain ⟨hQ, ha, hb, hb2, nb2, hb3, nb3, hb4, nb4, hb5, nb5, _⟩ := id C
  refine wpAnyH_ready (rs := [2, 8]) (by kernel_rfl) (by simp) ?_
  refine AllReadyH.cons (o := db1Op2) rfl (fun K hK => ?_) ?_
  · skip
    rw [if_pos (by rfl)]
    refine wp_call_val 24 #[.agg (arr 4 (limb a)), .agg (arr 4 (limb b))] (by kernel_rfl) (.agg (arr 4 (limb (am a b)))) (add_c a b _ ha hb) ?_
    intro w' hbw
    have hS' := hS.call hbw
    refine hK.out _ _ hS' (fun _ => ?_)
    exact wpAnyH_at (by kernel_rfl) (by kernel_rfl) (db1_15 C w' hS' gn7 (Bn7.call hbw))
  refine AllReadyH.cons (o := db1Op8) rfl (fun K hK => ?_) AllReadyH.nil
  rw [if_pos (by rfl)]
  refine wp_new _ 32 (alloc_fe _ _ _ rfl) ?_
  intro n6 w' eb Bn6 hbw
  have hS' := hS.call hbw
  refine hK.out _ _ hS' (fun _ => ?_)
  exact wpAnyH_at (by kernel_rfl) (by kernel_rfl) (db1_14 C w' hS' (by rw [eb]; exact hS.size) Bn6 gn7 (Bn7.call hbw) (by rw [eb]; exact Nat.ne_of_gt Bn7.lt))
set_option maxRecDepth 100000 in
set_option maxHeartbeats 2000000 in
theorem db1_19 (C : db1C Q u z6 z7 z8 z9 z10 z11 z12 z13 z14 z15 z16 z17 zz b2 b3 b4 b5 a b) {n6 : Nat} (w : World) (hS : Kp [] u w) (gn6 : u.heap.size ≤ n6) (Bn6 : Blk w n6 (arr 4 (fun _ => 0)) 32) :
    wpAnyH Try.prog .any db1Ops Q (Kp [] u) 7 (List.toArray (true :: true :: false :: false :: true :: true :: false :: false :: true :: false :: false :: false :: [])) { tmps := List.toArray ((.agg (arr 4 (limb a))) :: (.agg (arr 4 (limb b))) :: (.pointer (some ⟨b2, 0, none⟩)) :: (.pointer (some ⟨b3, 0, none⟩)) :: (.pointer (some ⟨b4, 0, none⟩)) :: (.pointer (some ⟨b5, 0, none⟩)) :: (.pointer (some ⟨n6, 0, none⟩)) :: z7 :: z8 :: z9 :: (.agg (arr 4 (limb a))) :: (.agg (arr 4 (limb b))) :: z12 :: z13 :: (.agg (arr 4 (limb a))) :: (.agg (arr 4 (limb b))) :: z16 :: z17 :: zz), defers := [] } w := by
  obtain ⟨hQ, ha, hb, hb2, nb2, hb3, nb3, hb4, nb4, hb5, nb5, _⟩ := id C
  refine wpAnyH_ready (rs := [2, 9]) (by kernel_rfl) (by simp) ?_
  refine AllReadyH.cons (o := db1Op2) rfl (fun K hK => ?_) ?_
  · skip
    rw [if_pos (by rfl)]
    refine wp_call_val 24 #[.agg (arr 4 (limb a)), .agg (arr 4 (limb b))] (by kernel_rfl) (.agg (arr 4 (limb (am a b)))) (add_c a b _ ha hb) ?_
    intro w' hbw
    have hS' := hS.call hbw
    refine hK.out _ _ hS' (fun _ => ?_)
    exact wpAnyH_at (by kernel_rfl) (by kernel_rfl) (db1_16 C w' hS' gn6 (Bn6.call hbw))
  refine AllReadyH.cons (o := db1Op9) rfl (fun K hK => ?_) AllReadyH.nil
  rw [if_pos (by rfl)]
  refine wp_new _ 32 (alloc_fe _ _ _ rfl) ?_
  intro n7 w' eb Bn7 hbw
  have hS' := hS.call hbw
  refine hK.out _ _ hS' (fun _ => ?_)
  exact wpAnyH_at (by kernel_rfl) (by kernel_rfl) (db1_14 C w' hS' gn6 (Bn6.call hbw) (by rw [eb]; exact hS.size) Bn7 (by rw [eb]; exact Nat.ne_of_lt Bn6.lt))
set_option maxRecDepth 100000 in
set_option maxHeartbeats 2000000 in
theorem db1_20 (C : db1C Q u z6 z7 z8 z9 z10 z11 z12 z13 z14 z15 z16 z17 zz b2 b3 b4 b5 a b) (w : World) (hS : Kp [] u w) :
    wpAnyH Try.prog .any db1Ops Q (Kp [] u) 7 (List.toArray (true :: true :: true :: false :: true :: true :: false :: false :: false :: false :: false :: false :: [])) { tmps := List.toArray ((.agg (arr 4 (limb a))) :: (.agg (arr 4 (limb b))) :: (.pointer (some ⟨b2, 0, none⟩)) :: (.pointer (some ⟨b3, 0, none⟩)) :: (.pointer (some ⟨b4, 0, none⟩)) :: (.pointer (some ⟨b5, 0, none⟩)) :: z6 :: z7 :: z8 :: z9 :: (.agg (arr 4 (limb a))) :: (.agg (arr 4 (limb b))) :: (.agg (arr 4 (limb (am a b)))) :: z13 :: (.agg (arr 4 (limb a))) :: (.agg (arr 4 (limb b))) :: z16 :: z17 :: zz), defers := [] } w := by
  obtain ⟨hQ, ha, hb, hb2, nb2, hb3, nb3, hb4, nb4, hb5, nb5, _⟩ := id C
  refine wpAnyH_ready (rs := [3, 8, 9]) (by kernel_rfl) (by simp) ?_
  refine AllReadyH.cons (o := db1Op3) rfl (fun K hK => ?_) ?_
  · skip
    rw [if_pos (by rfl)]
    refine wp_call_val 23 #[.agg (arr 4 (limb (am a b)))] (by kernel_rfl) (.agg (arr 4 (limb (mm (am a b) (am a b))))) (sq_c (am a b) _ (am_lt _ _)) ?_
    intro w' hbw
    have hS' := hS.call hbw
    refine hK.out _ _ hS' (fun _ => ?_)
    exact wpAnyH_at (by kernel_rfl) (by kernel_rfl) (db1_17 C w' hS' )
  refine AllReadyH.cons (o := db1Op8) rfl (fun K hK => ?_) ?_
  · skip
    rw [if_pos (by rfl)]
    refine wp_new _ 32 (alloc_fe _ _ _ rfl) ?_
    intro n6 w' eb Bn6 hbw
    have hS' := hS.call hbw
    refine hK.out _ _ hS' (fun _ => ?_)
    exact wpAnyH_at (by kernel_rfl) (by kernel_rfl) (db1_16 C w' hS' (by rw [eb]; exact hS.size) Bn6)
  refine AllReadyH.cons (o := db1Op9) rfl (fun K hK => ?_) AllReadyH.nil
  rw [if_pos (by rfl)]
  refine wp_new _ 32 (alloc_fe _ _ _ rfl) ?_
  intro n7 w' eb Bn7 hbw
  have hS' := hS.call hbw
  refine hK.out _ _ hS' (fun _ => ?_)
  exact wpAnyH_at (by kernel_rfl) (by kernel_rfl) (db1_15 C w' hS' (by rw [eb]; exact hS.size) Bn7)
set_option maxRecDepth 100000 in
set_option maxHeartbeats 2000000 in
theorem db1_21 (C : db1C Q u z6 z7 z8 z9 z10 z11 z12 z13 z14 z15 z16 z17 zz b2 b3 b4 b5 a b) (w : World) (hS : Kp [] u w) :
    wpAnyH Try.prog .any db1Ops Q (Kp [] u) 8 (List.toArray (true :: true :: false :: false :: true :: true :: false :: false :: false :: false :: false :: false :: [])) { tmps := List.toArray ((.agg (arr 4 (limb a))) :: (.agg (arr 4 (limb b))) :: (.pointer (some ⟨b2, 0, none⟩)) :: (.pointer (some ⟨b3, 0, none⟩)) :: (.pointer (some ⟨b4, 0, none⟩)) :: (.pointer (some ⟨b5, 0, none⟩)) :: z6 :: z7 :: z8 :: z9 :: (.agg (arr 4 (limb a))) :: (.agg (arr 4 (limb b))) :: z12 :: z13 :: (.agg (arr 4 (limb a))) :: (.agg (arr 4 (limb b))) :: z16 :: z17 :: zz), defers := [] } w := by
  obtain ⟨hQ, ha, hb, hb2, nb2, hb3, nb3, hb4, nb4, hb5, nb5, _⟩ := id C
  refine wpAnyH_ready (rs := [2, 8, 9]) (by kernel_rfl) (by simp) ?_
  refine AllReadyH.cons (o := db1Op2) rfl (fun K hK => ?_) ?_
  · skip
    rw [if_pos (by rfl)]
    refine wp_call_val 24 #[.agg (arr 4 (limb a)), .agg (arr 4 (limb b))] (by kernel_rfl) (.agg (arr 4 (limb (am a b)))) (add_c a b _ ha hb) ?_
    intro w' hbw
    have hS' := hS.call hbw
    refine hK.out _ _ hS' (fun _ => ?_)
    exact wpAnyH_at (by kernel_rfl) (by kernel_rfl) (db1_20 C w' hS' )
  refine AllReadyH.cons (o := db1Op8) rfl (fun K hK => ?_) ?_
  · skip
    rw [if_pos (by rfl)]
    refine wp_new _ 32 (alloc_fe _ _ _ rfl) ?_
    intro n6 w' eb Bn6 hbw
    have hS' := hS.call hbw
    refine hK.out _ _ hS' (fun _ => ?_)
    exact wpAnyH_at (by kernel_rfl) (by kernel_rfl) (db1_19 C w' hS' (by rw [eb]; exact hS.size) Bn6)
  refine AllReadyH.cons (o := db1Op9) rfl (fun K hK => ?_) AllReadyH.nil
  rw [if_pos (by rfl)]
  refine wp_new _ 32 (alloc_fe _ _ _ rfl) ?_
  intro n7 w' eb Bn7 hbw
  have hS' := hS.call hbw
  refine hK.out _ _ hS' (fun _ => ?_)
  exact wpAnyH_at (by kernel_rfl) (by kernel_rfl) (db1_18 C w' hS' (by rw [eb]; exact hS.size) Bn7)
end
set_option maxRecDepth 100000 in
set_option maxHeartbeats 2000000 in
theorem db1_region (Q : Exit → Act → World → Prop) (hQ : ∀ c a w n v, Q (.panic c) (a.put (some n) v) w → Q (.panic c) a w) (u : World) (z6 z7 z8 z9 z10 z11 z12 z13 z14 z15 z16 z17 : Value) (zz : List Value) (b2 b3 b4 b5 : Nat) (a b : Nat) (ha : a < pP) (hb : b < pP) (hb2 : Blk u b2 (arr 4 (limb a)) 32) (nb2 : b2 ∉ ([] : List Nat)) (hb3 : Blk u b3 (arr 4 (limb b)) 32) (nb3 : b3 ∉ ([] : List Nat)) (hb4 : Blk u b4 (arr 4 (fun _ => 0)) 32) (nb4 : b4 ∉ ([] : List Nat)) (hb5 : Blk u b5 (arr 4 (fun _ => 0)) 32) (nb5 : b5 ∉ ([] : List Nat)) (H : ∀ (n6 : Nat) (n7 : Nat) (w : World), Kp [] u w → u.heap.size ≤ n6 → Blk w n6 (arr 4 (limb (mm (am a b) (am a b)))) 32 → u.heap.size ≤ n7 → Blk w n7 (arr 4 (limb (mm (sm a b) (sm a b)))) 32 → n6 ≠ n7 → Q .normal { tmps := List.toArray ((.agg (arr 4 (limb a))) :: (.agg (arr 4 (limb b))) :: (.pointer (some ⟨b2, 0, none⟩)) :: (.pointer (some ⟨b3, 0, none⟩)) :: (.pointer (some ⟨b4, 0, none⟩)) :: (.pointer (some ⟨b5, 0, none⟩)) :: (.pointer (some ⟨n6, 0, none⟩)) :: (.pointer (some ⟨n7, 0, none⟩)) :: z8 :: z9 :: (.agg (arr 4 (limb a))) :: (.agg (arr 4 (limb b))) :: (.agg (arr 4 (limb (am a b)))) :: (.agg (arr 4 (limb (mm (am a b) (am a b))))) :: (.agg (arr 4 (limb a))) :: (.agg (arr 4 (limb b))) :: (.agg (arr 4 (limb (sm a b)))) :: (.agg (arr 4 (limb (mm (sm a b) (sm a b))))) :: zz), defers := [] } w) :
    (Code.region 1 db1Ops true).wp Try.prog Q { tmps := List.toArray ((.agg (arr 4 (limb a))) :: (.agg (arr 4 (limb b))) :: (.pointer (some ⟨b2, 0, none⟩)) :: (.pointer (some ⟨b3, 0, none⟩)) :: (.pointer (some ⟨b4, 0, none⟩)) :: (.pointer (some ⟨b5, 0, none⟩)) :: z6 :: z7 :: z8 :: z9 :: z10 :: z11 :: z12 :: z13 :: z14 :: z15 :: z16 :: z17 :: zz), defers := [] } u := by
  have C : db1C Q u z6 z7 z8 z9 z10 z11 z12 z13 z14 z15 z16 z17 zz b2 b3 b4 b5 a b := ⟨hQ, ha, hb, hb2, nb2, hb3, nb3, hb4, nb4, hb5, nb5, H⟩
  refine wp_region_held_drew (S := (Kp [] u)) (by kernel_rfl) (Kp.drew _ u) (fun hS' => ?_)
  refine wpAnyH_take (i := 0) (oi := db1Op0) (v := .agg (arr 4 (limb a))) rfl (by kernel_rfl) (by kernel_rfl) (by kernel_rfl) (fun _ _ _ => hQ _ _ _ _ _) (yields_S (fun _ h => h.keep _ _ _ nb2 hb2) (by kernel_rfl) 32 _ rfl (by kernel_rfl) _ Try.underlying32 rfl (size_fe _)) hS' ?_
  refine wpAnyH_take (i := 1) (oi := db1Op1) (v := .agg (arr 4 (limb b))) rfl (by kernel_rfl) (by kernel_rfl) (by kernel_rfl) (fun _ _ _ => hQ _ _ _ _ _) (yields_S (fun _ h => h.keep _ _ _ nb3 hb3) (by kernel_rfl) 32 _ rfl (by kernel_rfl) _ Try.underlying32 rfl (size_fe _)) hS' ?_
  refine wpAnyH_take (i := 4) (oi := db1Op4) (v := .agg (arr 4 (limb a))) rfl (by kernel_rfl) (by kernel_rfl) (by kernel_rfl) (fun _ _ _ => hQ _ _ _ _ _) (yields_S (fun _ h => h.keep _ _ _ nb2 hb2) (by kernel_rfl) 32 _ rfl (by kernel_rfl) _ Try.underlying32 rfl (size_fe _)) hS' ?_
  refine wpAnyH_take (i := 5) (oi := db1Op5) (v := .agg (arr 4 (limb b))) rfl (by kernel_rfl) (by kernel_rfl) (by kernel_rfl) (fun _ _ _ => hQ _ _ _ _ _) (yields_S (fun _ h => h.keep _ _ _ nb3 hb3) (by kernel_rfl) 32 _ rfl (by kernel_rfl) _ Try.underlying32 rfl (size_fe _)) hS' ?_
  exact wpAnyH_at (by kernel_rfl) (by kernel_rfl) (db1_21 C u.drew hS' )
def db2Op0 : Oper := { dst := some 18, op := Op.load 32 (Operand.tmp 6), type := 32, pos := "ladder.go:63", after := #[], guard := none }
def db2Op1 : Oper := { dst := some 19, op := Op.load 32 (Operand.tmp 7), type := 32, pos := "ladder.go:63", after := #[], guard := none }
def db2Op2 : Oper := { dst := some 20, op := Op.call { callee := Callee.value (Operand.func 26), args := #[Operand.tmp 18, Operand.tmp 19], argTypes := #[32, 32] }, type := 32, pos := "ladder.go:63", after := #[{ on := 0, ground := Ground.data }, { on := 1, ground := Ground.data }], guard := none }
def db2Op3 : Oper := { dst := some 8, op := Op.alloc 32, type := 0, pos := "ladder.go:63", after := #[], guard := none }
def db2Op4 : Oper := { dst := none, op := Op.store 32 (Operand.tmp 8) (Operand.tmp 20), type := 0, pos := "ladder.go:63", after := #[{ on := 3, ground := Ground.data }, { on := 2, ground := Ground.data }, { on := 2, ground := Ground.chain }, { on := 0, ground := Ground.phase }, { on := 1, ground := Ground.phase }, { on := 2, ground := Ground.phase }, { on := 3, ground := Ground.phase }], guard := none }
def db2Ops : Array Oper := #[db2Op0, db2Op1, db2Op2, db2Op3, db2Op4]
set_option maxRecDepth 100000 in
set_option maxHeartbeats 2000000 in
theorem db2_region (Q : Exit → Act → World → Prop) (hQ : ∀ c a w n v, Q (.panic c) (a.put (some n) v) w → Q (.panic c) a w) (u : World) (z0 z1 z2 z3 z8 z9 z10 z11 z12 z13 z14 z15 z16 z17 z18 z19 z20 : Value) (zz : List Value) (b4 b5 b6 b7 : Nat) (s t : Nat) (hs : s < pP) (ht : t < pP) (hb4 : Blk u b4 (arr 4 (fun _ => 0)) 32) (nb4 : b4 ∉ ([] : List Nat)) (hb5 : Blk u b5 (arr 4 (fun _ => 0)) 32) (nb5 : b5 ∉ ([] : List Nat)) (hb6 : Blk u b6 (arr 4 (limb s)) 32) (nb6 : b6 ∉ ([] : List Nat)) (hb7 : Blk u b7 (arr 4 (limb t)) 32) (nb7 : b7 ∉ ([] : List Nat)) (H : ∀ (n8 : Nat) (w : World), Kp [] u w → u.heap.size ≤ n8 → Blk w n8 (arr 4 (limb (sm s t))) 32 → Q .normal { tmps := List.toArray (z0 :: z1 :: z2 :: z3 :: (.pointer (some ⟨b4, 0, none⟩)) :: (.pointer (some ⟨b5, 0, none⟩)) :: (.pointer (some ⟨b6, 0, none⟩)) :: (.pointer (some ⟨b7, 0, none⟩)) :: (.pointer (some ⟨n8, 0, none⟩)) :: z9 :: z10 :: z11 :: z12 :: z13 :: z14 :: z15 :: z16 :: z17 :: (.agg (arr 4 (limb s))) :: (.agg (arr 4 (limb t))) :: (.agg (arr 4 (limb (sm s t)))) :: zz), defers := [] } w) :
    (Code.region 2 db2Ops false).wp Try.prog Q { tmps := List.toArray (z0 :: z1 :: z2 :: z3 :: (.pointer (some ⟨b4, 0, none⟩)) :: (.pointer (some ⟨b5, 0, none⟩)) :: (.pointer (some ⟨b6, 0, none⟩)) :: (.pointer (some ⟨b7, 0, none⟩)) :: z8 :: z9 :: z10 :: z11 :: z12 :: z13 :: z14 :: z15 :: z16 :: z17 :: z18 :: z19 :: z20 :: zz), defers := [] } u := by
  have _ := hQ
  have _ := u
  have _ := z0
  have _ := z1
  have _ := z2
  have _ := z3
  have _ := z8
  have _ := z9
  have _ := z10
  have _ := z11
  have _ := z12
  have _ := z13
  have _ := z14
  have _ := z15
  have _ := z16
  have _ := z17
  have _ := z18
  have _ := z19
  have _ := z20
  have _ := zz
  have _ := b4
  have _ := b5
  have _ := b6
  have _ := b7
  have _ := s
  have _ := t
  have _ := hs
  have _ := ht
  have _ := hb4
  have _ := nb4
  have _ := hb5
  have _ := nb5
  have _ := hb6
  have _ := nb6
  have _ := hb7
  have _ := nb7
  refine wp_region_list (show wpList _ db2Ops _ [db2Op0, db2Op1, db2Op2, db2Op3, db2Op4] _ _ from ?_)
  have hS : Kp [] u u := Kp.refl _ u
  refine wpList_plain rfl (fun K hK => ?_)
  refine wp_load_row 32 _ rfl b6 (by kernel_rfl) 32 _ (0, 0) _ (hS.keep _ _ _ nb6 hb6) Try.underlying32 rfl (size_fe _) ?_
  have hS' := hS
  refine hK _ _ ?_
  clear hK K
  clear hS
  have hS := hS'
  clear hS'
  refine wpList_fr (a' := { tmps := List.toArray (z0 :: z1 :: z2 :: z3 :: (.pointer (some ⟨b4, 0, none⟩)) :: (.pointer (some ⟨b5, 0, none⟩)) :: (.pointer (some ⟨b6, 0, none⟩)) :: (.pointer (some ⟨b7, 0, none⟩)) :: z8 :: z9 :: z10 :: z11 :: z12 :: z13 :: z14 :: z15 :: z16 :: z17 :: (.agg (arr 4 (limb s))) :: z19 :: z20 :: zz), defers := [] }) (by kernel_rfl) ?_
  refine wpList_plain rfl (fun K hK => ?_)
  refine wp_load_row 32 _ rfl b7 (by kernel_rfl) 32 _ (0, 0) _ (hS.keep _ _ _ nb7 hb7) Try.underlying32 rfl (size_fe _) ?_
  have hS' := hS
  refine hK _ _ ?_
  clear hK K
  clear hS
  have hS := hS'
  clear hS'
  refine wpList_fr (a' := { tmps := List.toArray (z0 :: z1 :: z2 :: z3 :: (.pointer (some ⟨b4, 0, none⟩)) :: (.pointer (some ⟨b5, 0, none⟩)) :: (.pointer (some ⟨b6, 0, none⟩)) :: (.pointer (some ⟨b7, 0, none⟩)) :: z8 :: z9 :: z10 :: z11 :: z12 :: z13 :: z14 :: z15 :: z16 :: z17 :: (.agg (arr 4 (limb s))) :: (.agg (arr 4 (limb t))) :: z20 :: zz), defers := [] }) (by kernel_rfl) ?_
  refine wpList_plain rfl (fun K hK => ?_)
  refine wp_call_val 26 #[.agg (arr 4 (limb s)), .agg (arr 4 (limb t))] (by kernel_rfl) (.agg (arr 4 (limb (sm s t)))) (sub_c s t _ hs ht) ?_
  intro w2 hbw
  have hS' := hS.call hbw
  refine hK _ _ ?_
  clear hK K
  clear hS
  have hS := hS'
  clear hS'
  refine wpList_fr (a' := { tmps := List.toArray (z0 :: z1 :: z2 :: z3 :: (.pointer (some ⟨b4, 0, none⟩)) :: (.pointer (some ⟨b5, 0, none⟩)) :: (.pointer (some ⟨b6, 0, none⟩)) :: (.pointer (some ⟨b7, 0, none⟩)) :: z8 :: z9 :: z10 :: z11 :: z12 :: z13 :: z14 :: z15 :: z16 :: z17 :: (.agg (arr 4 (limb s))) :: (.agg (arr 4 (limb t))) :: (.agg (arr 4 (limb (sm s t)))) :: zz), defers := [] }) (by kernel_rfl) ?_
  refine wpList_plain rfl (fun K hK => ?_)
  refine wp_new _ 32 (alloc_fe _ _ _ rfl) ?_
  intro n8 w3 eb Bn8 hbw
  have hS' := hS.call hbw
  refine hK _ _ ?_
  clear hK K
  have qgn8 : u.heap.size ≤ n8 := (by rw [eb]; exact hS.size)
  have qBn8 : Blk w3 n8 (arr 4 (fun _ => 0)) 32 := Bn8
  clear hS
  have gn8 := qgn8
  have Bn8 := qBn8
  have hS := hS'
  clear hS' qgn8 qBn8
  refine wpList_fr (a' := { tmps := List.toArray (z0 :: z1 :: z2 :: z3 :: (.pointer (some ⟨b4, 0, none⟩)) :: (.pointer (some ⟨b5, 0, none⟩)) :: (.pointer (some ⟨b6, 0, none⟩)) :: (.pointer (some ⟨b7, 0, none⟩)) :: (.pointer (some ⟨n8, 0, none⟩)) :: z9 :: z10 :: z11 :: z12 :: z13 :: z14 :: z15 :: z16 :: z17 :: (.agg (arr 4 (limb s))) :: (.agg (arr 4 (limb t))) :: (.agg (arr 4 (limb (sm s t)))) :: zz), defers := [] }) (by kernel_rfl) ?_
  refine wpList_plain rfl (fun K hK => ?_)
  refine wp_store_row 32 _ _ rfl n8 (arr 4 (limb (sm s t))) (by kernel_rfl) (by kernel_rfl) 32 _ Bn8 (size_fe _) (by rw [arr_size, arr_size]) (one_fe _) ?_
  have hS' := hS.new gn8 (arr 4 (limb (sm s t)))
  refine hK _ _ ?_
  clear hK K
  have qgn8 : u.heap.size ≤ n8 := gn8
  have qBn8 : Blk (w3.setRow n8 (arr 4 (limb (sm s t)))) n8 (arr 4 (limb (sm s t))) 32 := (Bn8.row (arr 4 (limb (sm s t))))
  clear hS gn8 Bn8
  have gn8 := qgn8
  have Bn8 := qBn8
  have hS := hS'
  clear hS' qgn8 qBn8
  refine wpList_fr (a' := { tmps := List.toArray (z0 :: z1 :: z2 :: z3 :: (.pointer (some ⟨b4, 0, none⟩)) :: (.pointer (some ⟨b5, 0, none⟩)) :: (.pointer (some ⟨b6, 0, none⟩)) :: (.pointer (some ⟨b7, 0, none⟩)) :: (.pointer (some ⟨n8, 0, none⟩)) :: z9 :: z10 :: z11 :: z12 :: z13 :: z14 :: z15 :: z16 :: z17 :: (.agg (arr 4 (limb s))) :: (.agg (arr 4 (limb t))) :: (.agg (arr 4 (limb (sm s t)))) :: zz), defers := [] }) (by kernel_rfl) ?_
  generalize (w3.setRow n8 (arr 4 (limb (sm s t)))) = w4 at *
  refine wpList_nil ?_
  exact H n8 w4 hS gn8 Bn8
def db3Op0 : Oper := { dst := some 21, op := Op.build 22 #[(0, Operand.const (Value.int IntKind.u8 65)), (1, Operand.const (Value.int IntKind.u8 219)), (2, Operand.const (Value.int IntKind.u8 1))], type := 22, pos := "ladder.go:65", after := #[], guard := none }
def db3Op1 : Oper := { dst := some 22, op := Op.call { callee := Callee.value (Operand.func 13), args := #[Operand.tmp 21], argTypes := #[22] }, type := 32, pos := "ladder.go:65", after := #[{ on := 0, ground := Ground.data }], guard := none }
def db3Op2 : Oper := { dst := some 23, op := Op.load 32 (Operand.tmp 8), type := 32, pos := "ladder.go:65", after := #[], guard := none }
def db3Op3 : Oper := { dst := some 24, op := Op.call { callee := Callee.value (Operand.func 25), args := #[Operand.tmp 22, Operand.tmp 23], argTypes := #[32, 32] }, type := 32, pos := "ladder.go:65", after := #[{ on := 1, ground := Ground.data }, { on := 2, ground := Ground.data }, { on := 1, ground := Ground.chain }], guard := none }
def db3Op4 : Oper := { dst := some 9, op := Op.alloc 32, type := 0, pos := "ladder.go:65", after := #[], guard := none }
def db3Op5 : Oper := { dst := none, op := Op.store 32 (Operand.tmp 9) (Operand.tmp 24), type := 0, pos := "ladder.go:65", after := #[{ on := 4, ground := Ground.data }, { on := 3, ground := Ground.data }, { on := 3, ground := Ground.chain }, { on := 0, ground := Ground.phase }, { on := 1, ground := Ground.phase }, { on := 2, ground := Ground.phase }, { on := 3, ground := Ground.phase }, { on := 4, ground := Ground.phase }], guard := none }
def db3Ops : Array Oper := #[db3Op0, db3Op1, db3Op2, db3Op3, db3Op4, db3Op5]
structure db3C (Q : Exit → Act → World → Prop) (u : World) (z0 z1 z2 z3 z9 z10 z11 z12 z13 z14 z15 z16 z17 z18 z19 z20 z21 z22 z23 z24 : Value) (zz : List Value) (b4 b5 b6 b7 b8 : Nat) (s t : Nat) (e : Nat) : Prop where
  hQ : ∀ c a w n v, Q (.panic c) (a.put (some n) v) w → Q (.panic c) a w
  he : e < pP
  hb4 : Blk u b4 (arr 4 (fun _ => 0)) 32
  nb4 : b4 ∉ ([] : List Nat)
  hb5 : Blk u b5 (arr 4 (fun _ => 0)) 32
  nb5 : b5 ∉ ([] : List Nat)
  hb6 : Blk u b6 (arr 4 (limb s)) 32
  nb6 : b6 ∉ ([] : List Nat)
  hb7 : Blk u b7 (arr 4 (limb t)) 32
  nb7 : b7 ∉ ([] : List Nat)
  hb8 : Blk u b8 (arr 4 (limb e)) 32
  nb8 : b8 ∉ ([] : List Nat)
  H : ∀ (n9 : Nat) (w : World), Kp [] u w → u.heap.size ≤ n9 → Blk w n9 (arr 4 (limb (mm 121665 e))) 32 → Q .normal { tmps := List.toArray (z0 :: z1 :: z2 :: z3 :: (.pointer (some ⟨b4, 0, none⟩)) :: (.pointer (some ⟨b5, 0, none⟩)) :: (.pointer (some ⟨b6, 0, none⟩)) :: (.pointer (some ⟨b7, 0, none⟩)) :: (.pointer (some ⟨b8, 0, none⟩)) :: (.pointer (some ⟨n9, 0, none⟩)) :: z10 :: z11 :: z12 :: z13 :: z14 :: z15 :: z16 :: z17 :: z18 :: z19 :: z20 :: (.agg (vals .u8 32 kB)) :: (.agg (arr 4 (limb 121665))) :: (.agg (arr 4 (limb e))) :: (.agg (arr 4 (limb (mm 121665 e)))) :: zz), defers := [] } w
section
variable {Q : Exit → Act → World → Prop} {u : World} {z0 z1 z2 z3 z9 z10 z11 z12 z13 z14 z15 z16 z17 z18 z19 z20 z21 z22 z23 z24 : Value} {zz : List Value} {b4 b5 b6 b7 b8 : Nat} {s t : Nat} {e : Nat}
set_option maxRecDepth 100000 in
set_option maxHeartbeats 2000000 in
theorem db3_0 (C : db3C Q u z0 z1 z2 z3 z9 z10 z11 z12 z13 z14 z15 z16 z17 z18 z19 z20 z21 z22 z23 z24 zz b4 b5 b6 b7 b8 s t e) {n9 : Nat} (w : World) (hS : Kp [] u w) (gn9 : u.heap.size ≤ n9) (Bn9 : Blk w n9 (arr 4 (limb (mm 121665 e))) 32) :
    wpAnyH Try.prog .any db3Ops Q (Kp [] u) 0 (List.toArray (true :: true :: true :: true :: true :: true :: [])) { tmps := List.toArray (z0 :: z1 :: z2 :: z3 :: (.pointer (some ⟨b4, 0, none⟩)) :: (.pointer (some ⟨b5, 0, none⟩)) :: (.pointer (some ⟨b6, 0, none⟩)) :: (.pointer (some ⟨b7, 0, none⟩)) :: (.pointer (some ⟨b8, 0, none⟩)) :: (.pointer (some ⟨n9, 0, none⟩)) :: z10 :: z11 :: z12 :: z13 :: z14 :: z15 :: z16 :: z17 :: z18 :: z19 :: z20 :: (.agg (vals .u8 32 kB)) :: (.agg (arr 4 (limb 121665))) :: (.agg (arr 4 (limb e))) :: (.agg (arr 4 (limb (mm 121665 e)))) :: zz), defers := [] } w := by
  exact wpAnyH_done (by kernel_rfl) (C.H n9 w hS gn9 Bn9) _
set_option maxRecDepth 100000 in
set_option maxHeartbeats 2000000 in
theorem db3_1 (C : db3C Q u z0 z1 z2 z3 z9 z10 z11 z12 z13 z14 z15 z16 z17 z18 z19 z20 z21 z22 z23 z24 zz b4 b5 b6 b7 b8 s t e) {n9 : Nat} (w : World) (hS : Kp [] u w) (gn9 : u.heap.size ≤ n9) (Bn9 : Blk w n9 (arr 4 (fun _ => 0)) 32) :
    wpAnyH Try.prog .any db3Ops Q (Kp [] u) 1 (List.toArray (true :: true :: true :: true :: true :: false :: [])) { tmps := List.toArray (z0 :: z1 :: z2 :: z3 :: (.pointer (some ⟨b4, 0, none⟩)) :: (.pointer (some ⟨b5, 0, none⟩)) :: (.pointer (some ⟨b6, 0, none⟩)) :: (.pointer (some ⟨b7, 0, none⟩)) :: (.pointer (some ⟨b8, 0, none⟩)) :: (.pointer (some ⟨n9, 0, none⟩)) :: z10 :: z11 :: z12 :: z13 :: z14 :: z15 :: z16 :: z17 :: z18 :: z19 :: z20 :: (.agg (vals .u8 32 kB)) :: (.agg (arr 4 (limb 121665))) :: (.agg (arr 4 (limb e))) :: (.agg (arr 4 (limb (mm 121665 e)))) :: zz), defers := [] } w := by
  obtain ⟨hQ, he, hb4, nb4, hb5, nb5, hb6, nb6, hb7, nb7, hb8, nb8, _⟩ := id C
  refine wpAnyH_ready (rs := [5]) (by kernel_rfl) (by simp) ?_
  refine AllReadyH.cons (o := db3Op5) rfl (fun K hK => ?_) AllReadyH.nil
  rw [if_pos (by rfl)]
  refine wp_store_row 32 _ _ rfl n9 (arr 4 (limb (mm 121665 e))) (by kernel_rfl) (by kernel_rfl) 32 _ Bn9 (size_fe _) (by rw [arr_size, arr_size]) (one_fe _) ?_
  have hS' := hS.new gn9 (arr 4 (limb (mm 121665 e)))
  refine hK.out _ _ hS' (fun _ => ?_)
  exact wpAnyH_at (by kernel_rfl) (by kernel_rfl) (db3_0 C (w.setRow n9 (arr 4 (limb (mm 121665 e)))) hS' gn9 (Bn9.row (arr 4 (limb (mm 121665 e)))))
set_option maxRecDepth 100000 in
set_option maxHeartbeats 2000000 in
theorem db3_2 (C : db3C Q u z0 z1 z2 z3 z9 z10 z11 z12 z13 z14 z15 z16 z17 z18 z19 z20 z21 z22 z23 z24 zz b4 b5 b6 b7 b8 s t e) {n9 : Nat} (w : World) (hS : Kp [] u w) (gn9 : u.heap.size ≤ n9) (Bn9 : Blk w n9 (arr 4 (fun _ => 0)) 32) :
    wpAnyH Try.prog .any db3Ops Q (Kp [] u) 2 (List.toArray (true :: true :: true :: false :: true :: false :: [])) { tmps := List.toArray (z0 :: z1 :: z2 :: z3 :: (.pointer (some ⟨b4, 0, none⟩)) :: (.pointer (some ⟨b5, 0, none⟩)) :: (.pointer (some ⟨b6, 0, none⟩)) :: (.pointer (some ⟨b7, 0, none⟩)) :: (.pointer (some ⟨b8, 0, none⟩)) :: (.pointer (some ⟨n9, 0, none⟩)) :: z10 :: z11 :: z12 :: z13 :: z14 :: z15 :: z16 :: z17 :: z18 :: z19 :: z20 :: (.agg (vals .u8 32 kB)) :: (.agg (arr 4 (limb 121665))) :: (.agg (arr 4 (limb e))) :: z24 :: zz), defers := [] } w := by
  obtain ⟨hQ, he, hb4, nb4, hb5, nb5, hb6, nb6, hb7, nb7, hb8, nb8, _⟩ := id C
  refine wpAnyH_ready (rs := [3]) (by kernel_rfl) (by simp) ?_
  refine AllReadyH.cons (o := db3Op3) rfl (fun K hK => ?_) AllReadyH.nil
  rw [if_pos (by rfl)]
  refine wp_call_val 25 #[.agg (arr 4 (limb 121665)), .agg (arr 4 (limb e))] (by kernel_rfl) (.agg (arr 4 (limb (mm 121665 e)))) (mul_c 121665 e _ kk_lt he) ?_
  intro w' hbw
  have hS' := hS.call hbw
  refine hK.out _ _ hS' (fun _ => ?_)
  exact wpAnyH_at (by kernel_rfl) (by kernel_rfl) (db3_1 C w' hS' gn9 (Bn9.call hbw))
set_option maxRecDepth 100000 in
set_option maxHeartbeats 2000000 in
theorem db3_3 (C : db3C Q u z0 z1 z2 z3 z9 z10 z11 z12 z13 z14 z15 z16 z17 z18 z19 z20 z21 z22 z23 z24 zz b4 b5 b6 b7 b8 s t e) (w : World) (hS : Kp [] u w) :
    wpAnyH Try.prog .any db3Ops Q (Kp [] u) 2 (List.toArray (true :: true :: true :: true :: false :: false :: [])) { tmps := List.toArray (z0 :: z1 :: z2 :: z3 :: (.pointer (some ⟨b4, 0, none⟩)) :: (.pointer (some ⟨b5, 0, none⟩)) :: (.pointer (some ⟨b6, 0, none⟩)) :: (.pointer (some ⟨b7, 0, none⟩)) :: (.pointer (some ⟨b8, 0, none⟩)) :: z9 :: z10 :: z11 :: z12 :: z13 :: z14 :: z15 :: z16 :: z17 :: z18 :: z19 :: z20 :: (.agg (vals .u8 32 kB)) :: (.agg (arr 4 (limb 121665))) :: (.agg (arr 4 (limb e))) :: (.agg (arr 4 (limb (mm 121665 e)))) :: zz), defers := [] } w := by
  obtain ⟨hQ, he, hb4, nb4, hb5, nb5, hb6, nb6, hb7, nb7, hb8, nb8, _⟩ := id C
  refine wpAnyH_ready (rs := [4]) (by kernel_rfl) (by simp) ?_
  refine AllReadyH.cons (o := db3Op4) rfl (fun K hK => ?_) AllReadyH.nil
  rw [if_pos (by rfl)]
  refine wp_new _ 32 (alloc_fe _ _ _ rfl) ?_
  intro n9 w' eb Bn9 hbw
  have hS' := hS.call hbw
  refine hK.out _ _ hS' (fun _ => ?_)
  exact wpAnyH_at (by kernel_rfl) (by kernel_rfl) (db3_1 C w' hS' (by rw [eb]; exact hS.size) Bn9)
set_option maxRecDepth 100000 in
set_option maxHeartbeats 2000000 in
theorem db3_4 (C : db3C Q u z0 z1 z2 z3 z9 z10 z11 z12 z13 z14 z15 z16 z17 z18 z19 z20 z21 z22 z23 z24 zz b4 b5 b6 b7 b8 s t e) {n9 : Nat} (w : World) (hS : Kp [] u w) (gn9 : u.heap.size ≤ n9) (Bn9 : Blk w n9 (arr 4 (fun _ => 0)) 32) :
    wpAnyH Try.prog .any db3Ops Q (Kp [] u) 3 (List.toArray (true :: false :: true :: false :: true :: false :: [])) { tmps := List.toArray (z0 :: z1 :: z2 :: z3 :: (.pointer (some ⟨b4, 0, none⟩)) :: (.pointer (some ⟨b5, 0, none⟩)) :: (.pointer (some ⟨b6, 0, none⟩)) :: (.pointer (some ⟨b7, 0, none⟩)) :: (.pointer (some ⟨b8, 0, none⟩)) :: (.pointer (some ⟨n9, 0, none⟩)) :: z10 :: z11 :: z12 :: z13 :: z14 :: z15 :: z16 :: z17 :: z18 :: z19 :: z20 :: (.agg (vals .u8 32 kB)) :: z22 :: (.agg (arr 4 (limb e))) :: z24 :: zz), defers := [] } w := by
  obtain ⟨hQ, he, hb4, nb4, hb5, nb5, hb6, nb6, hb7, nb7, hb8, nb8, _⟩ := id C
  refine wpAnyH_ready (rs := [1]) (by kernel_rfl) (by simp) ?_
  refine AllReadyH.cons (o := db3Op1) rfl (fun K hK => ?_) AllReadyH.nil
  rw [if_pos (by rfl)]
  refine wp_call_val 13 #[.agg (vals .u8 32 kB)] (by kernel_rfl) (.agg (arr 4 (limb 121665))) (k_c _) ?_
  intro w' hbw
  have hS' := hS.call hbw
  refine hK.out _ _ hS' (fun _ => ?_)
  exact wpAnyH_at (by kernel_rfl) (by kernel_rfl) (db3_2 C w' hS' gn9 (Bn9.call hbw))
set_option maxRecDepth 100000 in
set_option maxHeartbeats 2000000 in
theorem db3_5 (C : db3C Q u z0 z1 z2 z3 z9 z10 z11 z12 z13 z14 z15 z16 z17 z18 z19 z20 z21 z22 z23 z24 zz b4 b5 b6 b7 b8 s t e) (w : World) (hS : Kp [] u w) :
    wpAnyH Try.prog .any db3Ops Q (Kp [] u) 3 (List.toArray (true :: true :: true :: false :: false :: false :: [])) { tmps := List.toArray (z0 :: z1 :: z2 :: z3 :: (.pointer (some ⟨b4, 0, none⟩)) :: (.pointer (some ⟨b5, 0, none⟩)) :: (.pointer (some ⟨b6, 0, none⟩)) :: (.pointer (some ⟨b7, 0, none⟩)) :: (.pointer (some ⟨b8, 0, none⟩)) :: z9 :: z10 :: z11 :: z12 :: z13 :: z14 :: z15 :: z16 :: z17 :: z18 :: z19 :: z20 :: (.agg (vals .u8 32 kB)) :: (.agg (arr 4 (limb 121665))) :: (.agg (arr 4 (limb e))) :: z24 :: zz), defers := [] } w := by
  obtain ⟨hQ, he, hb4, nb4, hb5, nb5, hb6, nb6, hb7, nb7, hb8, nb8, _⟩ := id C
  refine wpAnyH_ready (rs := [3, 4]) (by kernel_rfl) (by simp) ?_
  refine AllReadyH.cons (o := db3Op3) rfl (fun K hK => ?_) ?_
  · skip
    rw [if_pos (by rfl)]
    refine wp_call_val 25 #[.agg (arr 4 (limb 121665)), .agg (arr 4 (limb e))] (by kernel_rfl) (.agg (arr 4 (limb (mm 121665 e)))) (mul_c 121665 e _ kk_lt he) ?_
    intro w' hbw
    have hS' := hS.call hbw
    refine hK.out _ _ hS' (fun _ => ?_)
    exact wpAnyH_at (by kernel_rfl) (by kernel_rfl) (db3_3 C w' hS' )
  refine AllReadyH.cons (o := db3Op4) rfl (fun K hK => ?_) AllReadyH.nil
  rw [if_pos (by rfl)]
  refine wp_new _ 32 (alloc_fe _ _ _ rfl) ?_
  intro n9 w' eb Bn9 hbw
  have hS' := hS.call hbw
  refine hK.out _ _ hS' (fun _ => ?_)
  exact wpAnyH_at (by kernel_rfl) (by kernel_rfl) (db3_2 C w' hS' (by rw [eb]; exact hS.size) Bn9)
set_option maxRecDepth 100000 in
set_option maxHeartbeats 2000000 in
theorem db3_6 (C : db3C Q u z0 z1 z2 z3 z9 z10 z11 z12 z13 z14 z15 z16 z17 z18 z19 z20 z21 z22 z23 z24 zz b4 b5 b6 b7 b8 s t e) (w : World) (hS : Kp [] u w) :
    wpAnyH Try.prog .any db3Ops Q (Kp [] u) 4 (List.toArray (true :: false :: true :: false :: false :: false :: [])) { tmps := List.toArray (z0 :: z1 :: z2 :: z3 :: (.pointer (some ⟨b4, 0, none⟩)) :: (.pointer (some ⟨b5, 0, none⟩)) :: (.pointer (some ⟨b6, 0, none⟩)) :: (.pointer (some ⟨b7, 0, none⟩)) :: (.pointer (some ⟨b8, 0, none⟩)) :: z9 :: z10 :: z11 :: z12 :: z13 :: z14 :: z15 :: z16 :: z17 :: z18 :: z19 :: z20 :: (.agg (vals .u8 32 kB)) :: z22 :: (.agg (arr 4 (limb e))) :: z24 :: zz), defers := [] } w := by
  obtain ⟨hQ, he, hb4, nb4, hb5, nb5, hb6, nb6, hb7, nb7, hb8, nb8, _⟩ := id C
  refine wpAnyH_ready (rs := [1, 4]) (by kernel_rfl) (by simp) ?_
  refine AllReadyH.cons (o := db3Op1) rfl (fun K hK => ?_) ?_
  · skip
    rw [if_pos (by rfl)]
    refine wp_call_val 13 #[.agg (vals .u8 32 kB)] (by kernel_rfl) (.agg (arr 4 (limb 121665))) (k_c _) ?_
    intro w' hbw
    have hS' := hS.call hbw
    refine hK.out _ _ hS' (fun _ => ?_)
    exact wpAnyH_at (by kernel_rfl) (by kernel_rfl) (db3_5 C w' hS' )
  refine AllReadyH.cons (o := db3Op4) rfl (fun K hK => ?_) AllReadyH.nil
  rw [if_pos (by rfl)]
  refine wp_new _ 32 (alloc_fe _ _ _ rfl) ?_
  intro n9 w' eb Bn9 hbw
  have hS' := hS.call hbw
  refine hK.out _ _ hS' (fun _ => ?_)
  exact wpAnyH_at (by kernel_rfl) (by kernel_rfl) (db3_4 C w' hS' (by rw [eb]; exact hS.size) Bn9)
end
set_option maxRecDepth 100000 in
set_option maxHeartbeats 2000000 in
theorem db3_region (Q : Exit → Act → World → Prop) (hQ : ∀ c a w n v, Q (.panic c) (a.put (some n) v) w → Q (.panic c) a w) (u : World) (z0 z1 z2 z3 z9 z10 z11 z12 z13 z14 z15 z16 z17 z18 z19 z20 z21 z22 z23 z24 : Value) (zz : List Value) (b4 b5 b6 b7 b8 : Nat) (s t : Nat) (e : Nat) (he : e < pP) (hb4 : Blk u b4 (arr 4 (fun _ => 0)) 32) (nb4 : b4 ∉ ([] : List Nat)) (hb5 : Blk u b5 (arr 4 (fun _ => 0)) 32) (nb5 : b5 ∉ ([] : List Nat)) (hb6 : Blk u b6 (arr 4 (limb s)) 32) (nb6 : b6 ∉ ([] : List Nat)) (hb7 : Blk u b7 (arr 4 (limb t)) 32) (nb7 : b7 ∉ ([] : List Nat)) (hb8 : Blk u b8 (arr 4 (limb e)) 32) (nb8 : b8 ∉ ([] : List Nat)) (H : ∀ (n9 : Nat) (w : World), Kp [] u w → u.heap.size ≤ n9 → Blk w n9 (arr 4 (limb (mm 121665 e))) 32 → Q .normal { tmps := List.toArray (z0 :: z1 :: z2 :: z3 :: (.pointer (some ⟨b4, 0, none⟩)) :: (.pointer (some ⟨b5, 0, none⟩)) :: (.pointer (some ⟨b6, 0, none⟩)) :: (.pointer (some ⟨b7, 0, none⟩)) :: (.pointer (some ⟨b8, 0, none⟩)) :: (.pointer (some ⟨n9, 0, none⟩)) :: z10 :: z11 :: z12 :: z13 :: z14 :: z15 :: z16 :: z17 :: z18 :: z19 :: z20 :: (.agg (vals .u8 32 kB)) :: (.agg (arr 4 (limb 121665))) :: (.agg (arr 4 (limb e))) :: (.agg (arr 4 (limb (mm 121665 e)))) :: zz), defers := [] } w) :
    (Code.region 3 db3Ops true).wp Try.prog Q { tmps := List.toArray (z0 :: z1 :: z2 :: z3 :: (.pointer (some ⟨b4, 0, none⟩)) :: (.pointer (some ⟨b5, 0, none⟩)) :: (.pointer (some ⟨b6, 0, none⟩)) :: (.pointer (some ⟨b7, 0, none⟩)) :: (.pointer (some ⟨b8, 0, none⟩)) :: z9 :: z10 :: z11 :: z12 :: z13 :: z14 :: z15 :: z16 :: z17 :: z18 :: z19 :: z20 :: z21 :: z22 :: z23 :: z24 :: zz), defers := [] } u := by
  have C : db3C Q u z0 z1 z2 z3 z9 z10 z11 z12 z13 z14 z15 z16 z17 z18 z19 z20 z21 z22 z23 z24 zz b4 b5 b6 b7 b8 s t e := ⟨hQ, he, hb4, nb4, hb5, nb5, hb6, nb6, hb7, nb7, hb8, nb8, H⟩
  refine wp_region_held_drew (S := (Kp [] u)) (by kernel_rfl) (Kp.drew _ u) (fun hS' => ?_)
  refine wpAnyH_take (i := 0) (oi := db3Op0) (v := .agg (vals .u8 32 kB)) rfl (by kernel_rfl) (by kernel_rfl) (by kernel_rfl) (fun _ _ _ => hQ _ _ _ _ _) (Or.inl ⟨by kernel_rfl, fun _ _ => by kernel_rfl⟩) hS' ?_
  refine wpAnyH_take (i := 2) (oi := db3Op2) (v := .agg (arr 4 (limb e))) rfl (by kernel_rfl) (by kernel_rfl) (by kernel_rfl) (fun _ _ _ => hQ _ _ _ _ _) (yields_S (fun _ h => h.keep _ _ _ nb8 hb8) (by kernel_rfl) 32 _ rfl (by kernel_rfl) _ Try.underlying32 rfl (size_fe _)) hS' ?_
  exact wpAnyH_at (by kernel_rfl) (by kernel_rfl) (db3_6 C u.drew hS' )
def db4Op0 : Oper := { dst := some 25, op := Op.load 32 (Operand.tmp 6), type := 32, pos := "ladder.go:66", after := #[], guard := none }
def db4Op1 : Oper := { dst := some 26, op := Op.load 32 (Operand.tmp 7), type := 32, pos := "ladder.go:66", after := #[], guard := none }
def db4Op2 : Oper := { dst := some 27, op := Op.call { callee := Callee.value (Operand.func 25), args := #[Operand.tmp 25, Operand.tmp 26], argTypes := #[32, 32] }, type := 32, pos := "ladder.go:66", after := #[{ on := 0, ground := Ground.data }, { on := 1, ground := Ground.data }], guard := none }
def db4Op3 : Oper := { dst := some 28, op := Op.load 32 (Operand.tmp 8), type := 32, pos := "ladder.go:66", after := #[], guard := none }
def db4Op4 : Oper := { dst := some 29, op := Op.load 32 (Operand.tmp 6), type := 32, pos := "ladder.go:66", after := #[], guard := none }
def db4Op5 : Oper := { dst := some 30, op := Op.load 32 (Operand.tmp 9), type := 32, pos := "ladder.go:66", after := #[], guard := none }
def db4Op6 : Oper := { dst := some 31, op := Op.call { callee := Callee.value (Operand.func 24), args := #[Operand.tmp 29, Operand.tmp 30], argTypes := #[32, 32] }, type := 32, pos := "ladder.go:66", after := #[{ on := 4, ground := Ground.data }, { on := 5, ground := Ground.data }, { on := 2, ground := Ground.chain }], guard := none }
def db4Op7 : Oper := { dst := some 32, op := Op.call { callee := Callee.value (Operand.func 25), args := #[Operand.tmp 28, Operand.tmp 31], argTypes := #[32, 32] }, type := 32, pos := "ladder.go:66", after := #[{ on := 3, ground := Ground.data }, { on := 6, ground := Ground.data }, { on := 6, ground := Ground.chain }], guard := none }
def db4Op8 : Oper := { dst := none, op := Op.store 32 (Operand.tmp 4) (Operand.tmp 27), type := 0, pos := "ladder.go:66", after := #[{ on := 2, ground := Ground.data }, { on := 7, ground := Ground.chain }, { on := 0, ground := Ground.phase }, { on := 1, ground := Ground.phase }, { on := 2, ground := Ground.phase }, { on := 3, ground := Ground.textOnly Departure.lateStores }, { on := 4, ground := Ground.textOnly Departure.lateStores }, { on := 5, ground := Ground.textOnly Departure.lateStores }, { on := 6, ground := Ground.textOnly Departure.lateStoresUnsure }, { on := 7, ground := Ground.textOnly Departure.lateStoresUnsure }], guard := none }
def db4Op9 : Oper := { dst := none, op := Op.store 32 (Operand.tmp 5) (Operand.tmp 32), type := 0, pos := "ladder.go:66", after := #[{ on := 7, ground := Ground.data }, { on := 8, ground := Ground.chain }, { on := 0, ground := Ground.phase }, { on := 1, ground := Ground.phase }, { on := 2, ground := Ground.phase }, { on := 3, ground := Ground.phase }, { on := 4, ground := Ground.phase }, { on := 5, ground := Ground.phase }, { on := 6, ground := Ground.phase }, { on := 7, ground := Ground.phase }, { on := 8, ground := Ground.phase }], guard := none }
def db4Ops : Array Oper := #[db4Op0, db4Op1, db4Op2, db4Op3, db4Op4, db4Op5, db4Op6, db4Op7, db4Op8, db4Op9]
structure db4C (Q : Exit → Act → World → Prop) (u : World) (z0 z1 z2 z3 z10 z11 z12 z13 z14 z15 z16 z17 z18 z19 z20 z21 z22 z23 z24 z25 z26 z27 z28 z29 z30 z31 z32 : Value) (b6 b7 b8 b9 b4 b5 : Nat) (s t : Nat) (e : Nat) (k : Nat) : Prop where
  hQ : ∀ c a w n v, Q (.panic c) (a.put (some n) v) w → Q (.panic c) a w
  hs : s < pP
  ht : t < pP
  he : e < pP
  hk : k < pP
  hb6 : Blk u b6 (arr 4 (limb s)) 32
  nb6 : b6 ∉ ([b4, b5] : List Nat)
  hb7 : Blk u b7 (arr 4 (limb t)) 32
  nb7 : b7 ∉ ([b4, b5] : List Nat)
  hb8 : Blk u b8 (arr 4 (limb e)) 32
  nb8 : b8 ∉ ([b4, b5] : List Nat)
  hb9 : Blk u b9 (arr 4 (limb k)) 32
  nb9 : b9 ∉ ([b4, b5] : List Nat)
  hb4 : Blk u b4 (arr 4 (fun _ => 0)) 32
  hb5 : Blk u b5 (arr 4 (fun _ => 0)) 32
  eb4b5 : b4 ≠ b5
  H : ∀ (w : World), Kp [b4, b5] u w → Blk w b4 (arr 4 (limb (mm s t))) 32 → Blk w b5 (arr 4 (limb (mm e (am s k)))) 32 → Q .normal { tmps := List.toArray (z0 :: z1 :: z2 :: z3 :: (.pointer (some ⟨b4, 0, none⟩)) :: (.pointer (some ⟨b5, 0, none⟩)) :: (.pointer (some ⟨b6, 0, none⟩)) :: (.pointer (some ⟨b7, 0, none⟩)) :: (.pointer (some ⟨b8, 0, none⟩)) :: (.pointer (some ⟨b9, 0, none⟩)) :: z10 :: z11 :: z12 :: z13 :: z14 :: z15 :: z16 :: z17 :: z18 :: z19 :: z20 :: z21 :: z22 :: z23 :: z24 :: (.agg (arr 4 (limb s))) :: (.agg (arr 4 (limb t))) :: (.agg (arr 4 (limb (mm s t)))) :: (.agg (arr 4 (limb e))) :: (.agg (arr 4 (limb s))) :: (.agg (arr 4 (limb k))) :: (.agg (arr 4 (limb (am s k)))) :: (.agg (arr 4 (limb (mm e (am s k))))) :: []), defers := [] } w
section
variable {Q : Exit → Act → World → Prop} {u : World} {z0 z1 z2 z3 z10 z11 z12 z13 z14 z15 z16 z17 z18 z19 z20 z21 z22 z23 z24 z25 z26 z27 z28 z29 z30 z31 z32 : Value} {b6 b7 b8 b9 b4 b5 : Nat} {s t : Nat} {e : Nat} {k : Nat}
set_option maxRecDepth 100000 in
set_option maxHeartbeats 2000000 in
theorem db4_0 (C : db4C Q u z0 z1 z2 z3 z10 z11 z12 z13 z14 z15 z16 z17 z18 z19 z20 z21 z22 z23 z24 z25 z26 z27 z28 z29 z30 z31 z32 b6 b7 b8 b9 b4 b5 s t e k) (w : World) (hS : Kp [b4, b5] u w) (Bb4 : Blk w b4 (arr 4 (limb (mm s t))) 32) (Bb5 : Blk w b5 (arr 4 (limb (mm e (am s k)))) 32) :
    wpAnyH Try.prog .any db4Ops Q (Kp [b4, b5] u) 0 (List.toArray (true :: true :: true :: true :: true :: true :: true :: true :: true :: true :: [])) { tmps := List.toArray (z0 :: z1 :: z2 :: z3 :: (.pointer (some ⟨b4, 0, none⟩)) :: (.pointer (some ⟨b5, 0, none⟩)) :: (.pointer (some ⟨b6, 0, none⟩)) :: (.pointer (some ⟨b7, 0, none⟩)) :: (.pointer (some ⟨b8, 0, none⟩)) :: (.pointer (some ⟨b9, 0, none⟩)) :: z10 :: z11 :: z12 :: z13 :: z14 :: z15 :: z16 :: z17 :: z18 :: z19 :: z20 :: z21 :: z22 :: z23 :: z24 :: (.agg (arr 4 (limb s))) :: (.agg (arr 4 (limb t))) :: (.agg (arr 4 (limb (mm s t)))) :: (.agg (arr 4 (limb e))) :: (.agg (arr 4 (limb s))) :: (.agg (arr 4 (limb k))) :: (.agg (arr 4 (limb (am s k)))) :: (.agg (arr 4 (limb (mm e (am s k))))) :: []), defers := [] } w := by
  exact wpAnyH_done (by kernel_rfl) (C.H  w hS Bb4 Bb5) _
set_option maxRecDepth 100000 in
set_option maxHeartbeats 2000000 in
theorem db4_1 (C : db4C Q u z0 z1 z2 z3 z10 z11 z12 z13 z14 z15 z16 z17 z18 z19 z20 z21 z22 z23 z24 z25 z26 z27 z28 z29 z30 z31 z32 b6 b7 b8 b9 b4 b5 s t e k) (w : World) (hS : Kp [b4, b5] u w) (Bb4 : Blk w b4 (arr 4 (limb (mm s t))) 32) (Bb5 : Blk w b5 (arr 4 (fun _ => 0)) 32) :
    wpAnyH Try.prog .any db4Ops Q (Kp [b4, b5] u) 1 (List.toArray (true :: true :: true :: true :: true :: true :: true :: true :: true :: false :: [])) { tmps := List.toArray (z0 :: z1 :: z2 :: z3 :: (.pointer (some ⟨b4, 0, none⟩)) :: (.pointer (some ⟨b5, 0, none⟩)) :: (.pointer (some ⟨b6, 0, none⟩)) :: (.pointer (some ⟨b7, 0, none⟩)) :: (.pointer (some ⟨b8, 0, none⟩)) :: (.pointer (some ⟨b9, 0, none⟩)) :: z10 :: z11 :: z12 :: z13 :: z14 :: z15 :: z16 :: z17 :: z18 :: z19 :: z20 :: z21 :: z22 :: z23 :: z24 :: (.agg (arr 4 (limb s))) :: (.agg (arr 4 (limb t))) :: (.agg (arr 4 (limb (mm s t)))) :: (.agg (arr 4 (limb e))) :: (.agg (arr 4 (limb s))) :: (.agg (arr 4 (limb k))) :: (.agg (arr 4 (limb (am s k)))) :: (.agg (arr 4 (limb (mm e (am s k))))) :: []), defers := [] } w := by
  obtain ⟨hQ, hs, ht, he, hk, hb6, nb6, hb7, nb7, hb8, nb8, hb9, nb9, hb4, hb5, eb4b5, _⟩ := id C
  refine wpAnyH_ready (rs := [9]) (by kernel_rfl) (by simp) ?_
  refine AllReadyH.cons (o := db4Op9) rfl (fun K hK => ?_) AllReadyH.nil
  rw [if_pos (by rfl)]
  refine wp_store_row 32 _ _ rfl b5 (arr 4 (limb (mm e (am s k)))) (by kernel_rfl) (by kernel_rfl) 32 _ Bb5 (size_fe _) (by rw [arr_size, arr_size]) (one_fe _) ?_
  have hS' := hS.old (x := b5) (by simp) (arr 4 (limb (mm e (am s k))))
  refine hK.out _ _ hS' (fun _ => ?_)
  exact wpAnyH_at (by kernel_rfl) (by kernel_rfl) (db4_0 C (w.setRow b5 (arr 4 (limb (mm e (am s k))))) hS' (Bb4.rowOther (arr 4 (limb (mm e (am s k)))) (Ne.symm eb4b5)) (Bb5.row (arr 4 (limb (mm e (am s k))))))
set_option maxRecDepth 100000 in
set_option maxHeartbeats 2000000 in
theorem db4_2 (C : db4C Q u z0 z1 z2 z3 z10 z11 z12 z13 z14 z15 z16 z17 z18 z19 z20 z21 z22 z23 z24 z25 z26 z27 z28 z29 z30 z31 z32 b6 b7 b8 b9 b4 b5 s t e k) (w : World) (hS : Kp [b4, b5] u w) (Bb4 : Blk w b4 (arr 4 (fun _ => 0)) 32) (Bb5 : Blk w b5 (arr 4 (fun _ => 0)) 32) :
    wpAnyH Try.prog .any db4Ops Q (Kp [b4, b5] u) 2 (List.toArray (true :: true :: true :: true :: true :: true :: true :: true :: false :: false :: [])) { tmps := List.toArray (z0 :: z1 :: z2 :: z3 :: (.pointer (some ⟨b4, 0, none⟩)) :: (.pointer (some ⟨b5, 0, none⟩)) :: (.pointer (some ⟨b6, 0, none⟩)) :: (.pointer (some ⟨b7, 0, none⟩)) :: (.pointer (some ⟨b8, 0, none⟩)) :: (.pointer (some ⟨b9, 0, none⟩)) :: z10 :: z11 :: z12 :: z13 :: z14 :: z15 :: z16 :: z17 :: z18 :: z19 :: z20 :: z21 :: z22 :: z23 :: z24 :: (.agg (arr 4 (limb s))) :: (.agg (arr 4 (limb t))) :: (.agg (arr 4 (limb (mm s t)))) :: (.agg (arr 4 (limb e))) :: (.agg (arr 4 (limb s))) :: (.agg (arr 4 (limb k))) :: (.agg (arr 4 (limb (am s k)))) :: (.agg (arr 4 (limb (mm e (am s k))))) :: []), defers := [] } w := by
  obtain ⟨hQ, hs, ht, he, hk, hb6, nb6, hb7, nb7, hb8, nb8, hb9, nb9, hb4, hb5, eb4b5, _⟩ := id C
  refine wpAnyH_ready (rs := [8]) (by kernel_rfl) (by simp) ?_
  refine AllReadyH.cons (o := db4Op8) rfl (fun K hK => ?_) AllReadyH.nil
  rw [if_pos (by rfl)]
  refine wp_store_row 32 _ _ rfl b4 (arr 4 (limb (mm s t))) (by kernel_rfl) (by kernel_rfl) 32 _ Bb4 (size_fe _) (by rw [arr_size, arr_size]) (one_fe _) ?_
  have hS' := hS.old (x := b4) (by simp) (arr 4 (limb (mm s t)))
  refine hK.out _ _ hS' (fun _ => ?_)
  exact wpAnyH_at (by kernel_rfl) (by kernel_rfl) (db4_1 C (w.setRow b4 (arr 4 (limb (mm s t)))) hS' (Bb4.row (arr 4 (limb (mm s t)))) (Bb5.rowOther (arr 4 (limb (mm s t))) eb4b5))
set_option maxRecDepth 100000 in
set_option maxHeartbeats 2000000 in
theorem db4_3 (C : db4C Q u z0 z1 z2 z3 z10 z11 z12 z13 z14 z15 z16 z17 z18 z19 z20 z21 z22 z23 z24 z25 z26 z27 z28 z29 z30 z31 z32 b6 b7 b8 b9 b4 b5 s t e k) (w : World) (hS : Kp [b4, b5] u w) (Bb4 : Blk w b4 (arr 4 (fun _ => 0)) 32) (Bb5 : Blk w b5 (arr 4 (fun _ => 0)) 32) :
    wpAnyH Try.prog .any db4Ops Q (Kp [b4, b5] u) 3 (List.toArray (true :: true :: true :: true :: true :: true :: true :: false :: false :: false :: [])) { tmps := List.toArray (z0 :: z1 :: z2 :: z3 :: (.pointer (some ⟨b4, 0, none⟩)) :: (.pointer (some ⟨b5, 0, none⟩)) :: (.pointer (some ⟨b6, 0, none⟩)) :: (.pointer (some ⟨b7, 0, none⟩)) :: (.pointer (some ⟨b8, 0, none⟩)) :: (.pointer (some ⟨b9, 0, none⟩)) :: z10 :: z11 :: z12 :: z13 :: z14 :: z15 :: z16 :: z17 :: z18 :: z19 :: z20 :: z21 :: z22 :: z23 :: z24 :: (.agg (arr 4 (limb s))) :: (.agg (arr 4 (limb t))) :: (.agg (arr 4 (limb (mm s t)))) :: (.agg (arr 4 (limb e))) :: (.agg (arr 4 (limb s))) :: (.agg (arr 4 (limb k))) :: (.agg (arr 4 (limb (am s k)))) :: z32 :: []), defers := [] } w := by
  obtain ⟨hQ, hs, ht, he, hk, hb6, nb6, hb7, nb7, hb8, nb8, hb9, nb9, hb4, hb5, eb4b5, _⟩ := id C
  refine wpAnyH_ready (rs := [7]) (by kernel_rfl) (by simp) ?_
  refine AllReadyH.cons (o := db4Op7) rfl (fun K hK => ?_) AllReadyH.nil
  rw [if_pos (by rfl)]
  refine wp_call_val 25 #[.agg (arr 4 (limb e)), .agg (arr 4 (limb (am s k)))] (by kernel_rfl) (.agg (arr 4 (limb (mm e (am s k))))) (mul_c e (am s k) _ he (am_lt _ _)) ?_
  intro w' hbw
  have hS' := hS.call hbw
  refine hK.out _ _ hS' (fun _ => ?_)
  exact wpAnyH_at (by kernel_rfl) (by kernel_rfl) (db4_2 C w' hS' (Bb4.call hbw) (Bb5.call hbw))
set_option maxRecDepth 100000 in
set_option maxHeartbeats 2000000 in
theorem db4_4 (C : db4C Q u z0 z1 z2 z3 z10 z11 z12 z13 z14 z15 z16 z17 z18 z19 z20 z21 z22 z23 z24 z25 z26 z27 z28 z29 z30 z31 z32 b6 b7 b8 b9 b4 b5 s t e k) (w : World) (hS : Kp [b4, b5] u w) (Bb4 : Blk w b4 (arr 4 (fun _ => 0)) 32) (Bb5 : Blk w b5 (arr 4 (fun _ => 0)) 32) :
    wpAnyH Try.prog .any db4Ops Q (Kp [b4, b5] u) 4 (List.toArray (true :: true :: true :: true :: true :: true :: false :: false :: false :: false :: [])) { tmps := List.toArray (z0 :: z1 :: z2 :: z3 :: (.pointer (some ⟨b4, 0, none⟩)) :: (.pointer (some ⟨b5, 0, none⟩)) :: (.pointer (some ⟨b6, 0, none⟩)) :: (.pointer (some ⟨b7, 0, none⟩)) :: (.pointer (some ⟨b8, 0, none⟩)) :: (.pointer (some ⟨b9, 0, none⟩)) :: z10 :: z11 :: z12 :: z13 :: z14 :: z15 :: z16 :: z17 :: z18 :: z19 :: z20 :: z21 :: z22 :: z23 :: z24 :: (.agg (arr 4 (limb s))) :: (.agg (arr 4 (limb t))) :: (.agg (arr 4 (limb (mm s t)))) :: (.agg (arr 4 (limb e))) :: (.agg (arr 4 (limb s))) :: (.agg (arr 4 (limb k))) :: z31 :: z32 :: []), defers := [] } w := by
  obtain ⟨hQ, hs, ht, he, hk, hb6, nb6, hb7, nb7, hb8, nb8, hb9, nb9, hb4, hb5, eb4b5, _⟩ := id C
  refine wpAnyH_ready (rs := [6]) (by kernel_rfl) (by simp) ?_
  refine AllReadyH.cons (o := db4Op6) rfl (fun K hK => ?_) AllReadyH.nil
  rw [if_pos (by rfl)]
  refine wp_call_val 24 #[.agg (arr 4 (limb s)), .agg (arr 4 (limb k))] (by kernel_rfl) (.agg (arr 4 (limb (am s k)))) (add_c s k _ hs hk) ?_
  intro w' hbw
  have hS' := hS.call hbw
  refine hK.out _ _ hS' (fun _ => ?_)
  exact wpAnyH_at (by kernel_rfl) (by kernel_rfl) (db4_3 C w' hS' (Bb4.call hbw) (Bb5.call hbw))
set_option maxRecDepth 100000 in
set_option maxHeartbeats 2000000 in
theorem db4_5 (C : db4C Q u z0 z1 z2 z3 z10 z11 z12 z13 z14 z15 z16 z17 z18 z19 z20 z21 z22 z23 z24 z25 z26 z27 z28 z29 z30 z31 z32 b6 b7 b8 b9 b4 b5 s t e k) (w : World) (hS : Kp [b4, b5] u w) (Bb4 : Blk w b4 (arr 4 (fun _ => 0)) 32) (Bb5 : Blk w b5 (arr 4 (fun _ => 0)) 32) :
    wpAnyH Try.prog .any db4Ops Q (Kp [b4, b5] u) 5 (List.toArray (true :: true :: false :: true :: true :: true :: false :: false :: false :: false :: [])) { tmps := List.toArray (z0 :: z1 :: z2 :: z3 :: (.pointer (some ⟨b4, 0, none⟩)) :: (.pointer (some ⟨b5, 0, none⟩)) :: (.pointer (some ⟨b6, 0, none⟩)) :: (.pointer (some ⟨b7, 0, none⟩)) :: (.pointer (some ⟨b8, 0, none⟩)) :: (.pointer (some ⟨b9, 0, none⟩)) :: z10 :: z11 :: z12 :: z13 :: z14 :: z15 :: z16 :: z17 :: z18 :: z19 :: z20 :: z21 :: z22 :: z23 :: z24 :: (.agg (arr 4 (limb s))) :: (.agg (arr 4 (limb t))) :: z27 :: (.agg (arr 4 (limb e))) :: (.agg (arr 4 (limb s))) :: (.agg (arr 4 (limb k))) :: z31 :: z32 :: []), defers := [] } w := by
  obtain ⟨hQ, hs, ht, he, hk, hb6, nb6, hb7, nb7, hb8, nb8, hb9, nb9, hb4, hb5, eb4b5, _⟩ := id C
  refine wpAnyH_ready (rs := [2]) (by kernel_rfl) (by simp) ?_
  refine AllReadyH.cons (o := db4Op2) rfl (fun K hK => ?_) AllReadyH.nil
  rw [if_pos (by rfl)]
  refine wp_call_val 25 #[.agg (arr 4 (limb s)), .agg (arr 4 (limb t))] (by kernel_rfl) (.agg (arr 4 (limb (mm s t)))) (mul_c s t _ hs ht) ?_
  intro w' hbw
  have hS' := hS.call hbw
  refine hK.out _ _ hS' (fun _ => ?_)
  exact wpAnyH_at (by kernel_rfl) (by kernel_rfl) (db4_4 C w' hS' (Bb4.call hbw) (Bb5.call hbw))
end
set_option maxRecDepth 100000 in
set_option maxHeartbeats 2000000 in
theorem db4_region (Q : Exit → Act → World → Prop) (hQ : ∀ c a w n v, Q (.panic c) (a.put (some n) v) w → Q (.panic c) a w) (u : World) (z0 z1 z2 z3 z10 z11 z12 z13 z14 z15 z16 z17 z18 z19 z20 z21 z22 z23 z24 z25 z26 z27 z28 z29 z30 z31 z32 : Value) (b6 b7 b8 b9 b4 b5 : Nat) (s t : Nat) (hs : s < pP) (ht : t < pP) (e : Nat) (he : e < pP) (k : Nat) (hk : k < pP) (hb6 : Blk u b6 (arr 4 (limb s)) 32) (nb6 : b6 ∉ ([b4, b5] : List Nat)) (hb7 : Blk u b7 (arr 4 (limb t)) 32) (nb7 : b7 ∉ ([b4, b5] : List Nat)) (hb8 : Blk u b8 (arr 4 (limb e)) 32) (nb8 : b8 ∉ ([b4, b5] : List Nat)) (hb9 : Blk u b9 (arr 4 (limb k)) 32) (nb9 : b9 ∉ ([b4, b5] : List Nat)) (hb4 : Blk u b4 (arr 4 (fun _ => 0)) 32) (hb5 : Blk u b5 (arr 4 (fun _ => 0)) 32) (eb4b5 : b4 ≠ b5) (H : ∀ (w : World), Kp [b4, b5] u w → Blk w b4 (arr 4 (limb (mm s t))) 32 → Blk w b5 (arr 4 (limb (mm e (am s k)))) 32 → Q .normal { tmps := List.toArray (z0 :: z1 :: z2 :: z3 :: (.pointer (some ⟨b4, 0, none⟩)) :: (.pointer (some ⟨b5, 0, none⟩)) :: (.pointer (some ⟨b6, 0, none⟩)) :: (.pointer (some ⟨b7, 0, none⟩)) :: (.pointer (some ⟨b8, 0, none⟩)) :: (.pointer (some ⟨b9, 0, none⟩)) :: z10 :: z11 :: z12 :: z13 :: z14 :: z15 :: z16 :: z17 :: z18 :: z19 :: z20 :: z21 :: z22 :: z23 :: z24 :: (.agg (arr 4 (limb s))) :: (.agg (arr 4 (limb t))) :: (.agg (arr 4 (limb (mm s t)))) :: (.agg (arr 4 (limb e))) :: (.agg (arr 4 (limb s))) :: (.agg (arr 4 (limb k))) :: (.agg (arr 4 (limb (am s k)))) :: (.agg (arr 4 (limb (mm e (am s k))))) :: []), defers := [] } w) :
    (Code.region 4 db4Ops true).wp Try.prog Q { tmps := List.toArray (z0 :: z1 :: z2 :: z3 :: (.pointer (some ⟨b4, 0, none⟩)) :: (.pointer (some ⟨b5, 0, none⟩)) :: (.pointer (some ⟨b6, 0, none⟩)) :: (.pointer (some ⟨b7, 0, none⟩)) :: (.pointer (some ⟨b8, 0, none⟩)) :: (.pointer (some ⟨b9, 0, none⟩)) :: z10 :: z11 :: z12 :: z13 :: z14 :: z15 :: z16 :: z17 :: z18 :: z19 :: z20 :: z21 :: z22 :: z23 :: z24 :: z25 :: z26 :: z27 :: z28 :: z29 :: z30 :: z31 :: z32 :: []), defers := [] } u := by
  have C : db4C Q u z0 z1 z2 z3 z10 z11 z12 z13 z14 z15 z16 z17 z18 z19 z20 z21 z22 z23 z24 z25 z26 z27 z28 z29 z30 z31 z32 b6 b7 b8 b9 b4 b5 s t e k := ⟨hQ, hs, ht, he, hk, hb6, nb6, hb7, nb7, hb8, nb8, hb9, nb9, hb4, hb5, eb4b5, H⟩
  refine wp_region_held_drew (S := (Kp [b4, b5] u)) (by kernel_rfl) (Kp.drew _ u) (fun hS' => ?_)
  refine wpAnyH_take (i := 0) (oi := db4Op0) (v := .agg (arr 4 (limb s))) rfl (by kernel_rfl) (by kernel_rfl) (by kernel_rfl) (fun _ _ _ => hQ _ _ _ _ _) (yields_S (fun _ h => h.keep _ _ _ nb6 hb6) (by kernel_rfl) 32 _ rfl (by kernel_rfl) _ Try.underlying32 rfl (size_fe _)) hS' ?_
  refine wpAnyH_take (i := 1) (oi := db4Op1) (v := .agg (arr 4 (limb t))) rfl (by kernel_rfl) (by kernel_rfl) (by kernel_rfl) (fun _ _ _ => hQ _ _ _ _ _) (yields_S (fun _ h => h.keep _ _ _ nb7 hb7) (by kernel_rfl) 32 _ rfl (by kernel_rfl) _ Try.underlying32 rfl (size_fe _)) hS' ?_
  refine wpAnyH_take (i := 3) (oi := db4Op3) (v := .agg (arr 4 (limb e))) rfl (by kernel_rfl) (by kernel_rfl) (by kernel_rfl) (fun _ _ _ => hQ _ _ _ _ _) (yields_S (fun _ h => h.keep _ _ _ nb8 hb8) (by kernel_rfl) 32 _ rfl (by kernel_rfl) _ Try.underlying32 rfl (size_fe _)) hS' ?_
  refine wpAnyH_at (listed' := (List.toArray (true :: true :: false :: true :: false :: false :: false :: false :: false :: false :: []))) (a' := { tmps := List.toArray (z0 :: z1 :: z2 :: z3 :: (.pointer (some ⟨b4, 0, none⟩)) :: (.pointer (some ⟨b5, 0, none⟩)) :: (.pointer (some ⟨b6, 0, none⟩)) :: (.pointer (some ⟨b7, 0, none⟩)) :: (.pointer (some ⟨b8, 0, none⟩)) :: (.pointer (some ⟨b9, 0, none⟩)) :: z10 :: z11 :: z12 :: z13 :: z14 :: z15 :: z16 :: z17 :: z18 :: z19 :: z20 :: z21 :: z22 :: z23 :: z24 :: (.agg (arr 4 (limb s))) :: (.agg (arr 4 (limb t))) :: z27 :: (.agg (arr 4 (limb e))) :: z29 :: z30 :: z31 :: z32 :: []), defers := [] }) (by kernel_rfl) (by kernel_rfl) ?_
  refine wpAnyH_take (i := 4) (oi := db4Op4) (v := .agg (arr 4 (limb s))) rfl (by kernel_rfl) (by kernel_rfl) (by kernel_rfl) (fun _ _ _ => hQ _ _ _ _ _) (yields_S (fun _ h => h.keep _ _ _ nb6 hb6) (by kernel_rfl) 32 _ rfl (by kernel_rfl) _ Try.underlying32 rfl (size_fe _)) hS' ?_
  refine wpAnyH_take (i := 5) (oi := db4Op5) (v := .agg (arr 4 (limb k))) rfl (by kernel_rfl) (by kernel_rfl) (by kernel_rfl) (fun _ _ _ => hQ _ _ _ _ _) (yields_S (fun _ h => h.keep _ _ _ nb9 hb9) (by kernel_rfl) 32 _ rfl (by kernel_rfl) _ Try.underlying32 rfl (size_fe _)) hS' ?_
  exact wpAnyH_at (by kernel_rfl) (by kernel_rfl) (db4_5 C u.drew hS' hb4.drew hb5.drew)
theorem not_nil (b : Nat) : b ∉ ([] : List Nat) := by simp
set_option maxRecDepth 100000 in
set_option maxHeartbeats 1000000 in
theorem doubled_c (a b s t e : Nat) (w : World) (ha : a < pP) (hb : b < pP) (es : s = mm (am a b) (am a b)) (et : t = mm (sm a b) (sm a b)) (ee : e = sm s t) :
    Ret 22 #[.agg (arr 4 (limb a)), .agg (arr 4 (limb b))] w (.tuple #[.agg (arr 4 (limb (mm s t))), .agg (arr 4 (limb (mm e (am s (mm 121665 e)))))]) := by
  have hs : s < pP := es ▸ mm_lt _ _
  have ht : t < pP := et ▸ mm_lt _ _
  have he : e < pP := ee ▸ sm_lt _ _
  go_enter Try.func22, Try.ntmps22
  go_upto_region 0 with (fail)
  refine db0_region _ (fun _ _ _ _ _ h => h) w _ _ _ _ _ a b ?_
  intro n2 n3 n4 n5 w1 hK gn2 Bn2 gn3 Bn3 gn4 Bn4 gn5 Bn5 en2n3 en2n4 en2n5 en3n4 en3n5 en4n5
  have hL := hK.below w _ (Nat.le_refl _) (Below.refl _ w)
  go_upto_region 1 with (fail)
  refine db1_region _ (fun _ _ _ _ _ h => h) w1 _ _ _ _ _ _ _ _ _ _ _ _ _ n2 n3 n4 n5 a b ha hb Bn2 (not_nil _) Bn3 (not_nil _) Bn4 (not_nil _) Bn5 (not_nil _) ?_
  rw [← es, ← et]
  intro n6 n7 w2 hK2 gn6 Bn6 gn7 Bn7 en6n7
  have C4 := hK2.keep _ _ _ (not_nil _) Bn4
  have C5 := hK2.keep _ _ _ (not_nil _) Bn5
  have hL2 := hK2.below w _ hK.size hL
  have q46 : n4 < n6 := Nat.lt_of_lt_of_le Bn4.lt gn6
  have q47 : n4 < n7 := Nat.lt_of_lt_of_le Bn4.lt gn7
  have q56 : n5 < n6 := Nat.lt_of_lt_of_le Bn5.lt gn6
  have q57 : n5 < n7 := Nat.lt_of_lt_of_le Bn5.lt gn7
  go_upto_region 2 with (fail)
  refine db2_region _ (fun _ _ _ _ _ h => h) w2 _ _ _ _ _ _ _ _ _ _ _ _ _ _ _ _ _ _ n4 n5 n6 n7 s t hs ht C4 (not_nil _) C5 (not_nil _) Bn6 (not_nil _) Bn7 (not_nil _) ?_
  rw [← ee]
  intro n8 w3 hK3 gn8 Bn8
  have D4 := hK3.keep _ _ _ (not_nil _) C4
  have D5 := hK3.keep _ _ _ (not_nil _) C5
  have D6 := hK3.keep _ _ _ (not_nil _) Bn6
  have D7 := hK3.keep _ _ _ (not_nil _) Bn7
  have sz2 := Nat.le_trans hK.size hK2.size
  have hL3 := hK3.below w _ sz2 hL2
  have q48 : n4 < n8 := Nat.lt_of_lt_of_le C4.lt gn8
  have q58 : n5 < n8 := Nat.lt_of_lt_of_le C5.lt gn8
  go_upto_region 3 with (fail)
  refine db3_region _ (fun _ _ _ _ _ h => h) w3 _ _ _ _ _ _ _ _ _ _ _ _ _ _ _ _ _ _ _ _ _ n4 n5 n6 n7 n8 s t e he D4 (not_nil _) D5 (not_nil _) D6 (not_nil _) D7 (not_nil _) Bn8 (not_nil _) ?_
  intro n9 w4 hK4 gn9 Bn9
  have E4 := hK4.keep _ _ _ (not_nil _) D4
  have E5 := hK4.keep _ _ _ (not_nil _) D5
  have E6 := hK4.keep _ _ _ (not_nil _) D6
  have E7 := hK4.keep _ _ _ (not_nil _) D7
  have E8 := hK4.keep _ _ _ (not_nil _) Bn8
  have sz3 := Nat.le_trans sz2 hK3.size
  have hL4 := hK4.below w _ sz3 hL3
  have q49 : n4 < n9 := Nat.lt_of_lt_of_le D4.lt gn9
  have q59 : n5 < n9 := Nat.lt_of_lt_of_le D5.lt gn9
  go_upto_region 4 with (fail)
  refine db4_region _ (fun _ _ _ _ _ h => h) w4 _ _ _ _ _ _ _ _ _ _ _ _ _ _ _ _ _ _ _ _ _ _ _ _ _ _ _ n6 n7 n8 n9 n4 n5 s t hs ht e he (mm 121665 e) (mm_lt _ _) E6 (not_two (by omega) (by omega)) E7 (not_two (by omega) (by omega)) E8 (not_two (by omega) (by omega)) Bn9 (not_two (by omega) (by omega)) E4 E5 en4n5 ?_
  intro w5 hK5 F4 F5
  go_wp2_with fail
  refine bodyPost_ret (v := .tuple #[.agg (arr 4 (limb (mm s t))), .agg (arr 4 (limb (mm e (am s (mm 121665 e)))))]) (results_two Try.results22 _ _ n4 n5 32 32 _ _ (0, 0) (0, 0) _ _ rfl F4 Try.underlying32 rfl (size_fe _) rfl F5 Try.underlying32 rfl (size_fe _)) rfl ⟨rfl, ?_⟩
  exact hK5.low _ _ (by intro x hx; simp at hx; omega) (Nat.le_trans sz3 hK4.size) hL4
end Go.Proofs.Ytidhffaphbiapaa

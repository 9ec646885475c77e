/- Walks: the closure of Mul: the numbers change places where the bit is 1. The four rows are four; no other condition. -/
import Derived.Test.YtidhffaphbiapaaPd
namespace Go.Proofs.Ytidhffaphbiapaa
open F Go.RowKit

theorem F.Kp.trans {X Y Z : List Nat} {u v w : World} (h : Kp X u v) (h2 : Kp Y v w) (hX : ∀ x, x ∈ X → x ∈ Z) (hY : ∀ x, x ∈ Y → x ∈ Z) : Kp Z u w :=
  ⟨Nat.le_trans h.size h2.size, fun b c t hn hB => h2.keep b c t (fun e => hn (hY b e)) (h.keep b c t (fun e => hn (hX b e)) hB), fun B w0 hZ hB hL => h2.low B w0 (fun x hx => hZ x (hY x hx)) (Nat.le_trans hB h.size) (h.low B w0 (fun x hx => hZ x (hX x hx)) hB hL)⟩
def cl0Op0 : Oper := { dst := some 6, op := Op.load 32 (Operand.tmp 1), type := 32, pos := "ladder.go:16", after := #[], guard := none }
def cl0Op1 : Oper := { dst := some 7, op := Op.load 32 (Operand.tmp 2), type := 32, pos := "ladder.go:16", after := #[], guard := none }
def cl0Op2 : Oper := { dst := some 8, op := Op.move (Operand.tmp 0), type := 4, pos := "ladder.go:16", after := #[], guard := none }
def cl0Op3 : Oper := { dst := some 9, op := Op.call { callee := Callee.value (Operand.func 19), args := #[Operand.tmp 6, Operand.tmp 7, Operand.tmp 8], argTypes := #[32, 32, 4] }, type := 32, pos := "ladder.go:16", after := #[{ on := 0, ground := Ground.data }, { on := 1, ground := Ground.data }, { on := 2, ground := Ground.data }], guard := none }
def cl0Op4 : Oper := { dst := some 10, op := Op.load 32 (Operand.tmp 2), type := 32, pos := "ladder.go:16", after := #[], guard := none }
def cl0Op5 : Oper := { dst := some 11, op := Op.load 32 (Operand.tmp 1), type := 32, pos := "ladder.go:16", after := #[], guard := none }
def cl0Op6 : Oper := { dst := some 12, op := Op.move (Operand.tmp 0), type := 4, pos := "ladder.go:16", after := #[], guard := none }
def cl0Op7 : Oper := { dst := some 13, op := Op.call { callee := Callee.value (Operand.func 19), args := #[Operand.tmp 10, Operand.tmp 11, Operand.tmp 12], argTypes := #[32, 32, 4] }, type := 32, pos := "ladder.go:16", after := #[{ on := 4, ground := Ground.data }, { on := 5, ground := Ground.data }, { on := 6, ground := Ground.data }, { on := 3, ground := Ground.chain }], guard := none }
def cl0Op8 : Oper := { dst := none, op := Op.store 32 (Operand.tmp 2) (Operand.tmp 9), type := 0, pos := "ladder.go:16", after := #[{ on := 3, ground := Ground.data }, { on := 7, ground := Ground.chain }, { on := 0, ground := Ground.phase }, { on := 1, ground := Ground.phase }, { on := 2, ground := Ground.phase }, { on := 3, ground := Ground.phase }, { on := 4, ground := Ground.phase }, { on := 5, ground := Ground.textOnly Departure.inlinedCapture }, { on := 6, ground := Ground.textOnly Departure.lateStores }, { on := 7, ground := Ground.textOnly Departure.lateStoresUnsure }], guard := none }
def cl0Op9 : Oper := { dst := none, op := Op.store 32 (Operand.tmp 1) (Operand.tmp 13), type := 0, pos := "ladder.go:16", after := #[{ on := 7, ground := Ground.data }, { on := 8, ground := Ground.chain }, { on := 0, ground := Ground.phase }, { on := 1, ground := Ground.phase }, { on := 2, ground := Ground.phase }, { on := 3, ground := Ground.phase }, { on := 4, ground := Ground.phase }, { on := 5, ground := Ground.phase }, { on := 6, ground := Ground.phase }, { on := 7, ground := Ground.phase }, { on := 8, ground := Ground.phase }], guard := none }
def cl0Ops : Array Oper := #[cl0Op0, cl0Op1, cl0Op2, cl0Op3, cl0Op4, cl0Op5, cl0Op6, cl0Op7, cl0Op8, cl0Op9]
structure cl0C (Q : Exit → Act → World → Prop) (u : World) (z5 z6 z7 z8 z9 z10 z11 z12 z13 : Value) (zz : List Value) (b1 b2 b3 b4 : Nat) (bit : Bool) (a b c d : Nat) : Prop where
  hQ : ∀ c a w n v, Q (.panic c) (a.put (some n) v) w → Q (.panic c) a w
  hb1 : Blk u b1 (arr 4 (limb c)) 32
  hb2 : Blk u b2 (arr 4 (limb a)) 32
  hb3 : Blk u b3 (arr 4 (limb d)) 32
  nb3 : b3 ∉ ([b1, b2] : List Nat)
  hb4 : Blk u b4 (arr 4 (limb b)) 32
  nb4 : b4 ∉ ([b1, b2] : List Nat)
  eb1b2 : b1 ≠ b2
  H : ∀ (w : World), Kp [b1, b2] u w → Blk w b1 (arr 4 (limb (cond bit a c))) 32 → Blk w b2 (arr 4 (limb (cond bit c a))) 32 → Q .normal { tmps := List.toArray ((.bool bit) :: (.pointer (some ⟨b1, 0, none⟩)) :: (.pointer (some ⟨b2, 0, none⟩)) :: (.pointer (some ⟨b3, 0, none⟩)) :: (.pointer (some ⟨b4, 0, none⟩)) :: z5 :: (.agg (arr 4 (limb c))) :: (.agg (arr 4 (limb a))) :: (.bool bit) :: (.agg (arr 4 (limb (cond bit c a)))) :: (.agg (arr 4 (limb a))) :: (.agg (arr 4 (limb c))) :: (.bool bit) :: (.agg (arr 4 (limb (cond bit a c)))) :: zz), defers := [] } w
section
variable {Q : Exit → Act → World → Prop} {u : World} {z5 z6 z7 z8 z9 z10 z11 z12 z13 : Value} {zz : List Value} {b1 b2 b3 b4 : Nat} {bit : Bool} {a b c d : Nat}
set_option maxRecDepth 100000 in
set_option maxHeartbeats 2000000 in
theorem cl0_0 (C : cl0C Q u z5 z6 z7 z8 z9 z10 z11 z12 z13 zz b1 b2 b3 b4 bit a b c d) (w : World) (hS : Kp [b1, b2] u w) (Bb1 : Blk w b1 (arr 4 (limb (cond bit a c))) 32) (Bb2 : Blk w b2 (arr 4 (limb (cond bit c a))) 32) :
    wpAnyH Try.prog .any cl0Ops Q (Kp [b1, b2] u) 0 (List.toArray (true :: true :: true :: true :: true :: true :: true :: true :: true :: true :: [])) { tmps := List.toArray ((.bool bit) :: (.pointer (some ⟨b1, 0, none⟩)) :: (.pointer (some ⟨b2, 0, none⟩)) :: (.pointer (some ⟨b3, 0, none⟩)) :: (.pointer (some ⟨b4, 0, none⟩)) :: z5 :: (.agg (arr 4 (limb c))) :: (.agg (arr 4 (limb a))) :: (.bool bit) :: (.agg (arr 4 (limb (cond bit c a)))) :: (.agg (arr 4 (limb a))) :: (.agg (arr 4 (limb c))) :: (.bool bit) :: (.agg (arr 4 (limb (cond bit a c)))) :: zz), defers := [] } w := by
  exact wpAnyH_done (by kernel_rfl) (C.H  w hS Bb1 Bb2) _
set_option maxRecDepth 100000 in
set_option maxHeartbeats 2000000 in
theorem cl0_1 (C : cl0C Q u z5 z6 z7 z8 z9 z10 z11 z12 z13 zz b1 b2 b3 b4 bit a b c d) (w : World) (hS : Kp [b1, b2] u w) (Bb1 : Blk w b1 (arr 4 (limb c)) 32) (Bb2 : Blk w b2 (arr 4 (limb (cond bit c a))) 32) :
    wpAnyH Try.prog .any cl0Ops Q (Kp [b1, b2] u) 1 (List.toArray (true :: true :: true :: true :: true :: true :: true :: true :: true :: false :: [])) { tmps := List.toArray ((.bool bit) :: (.pointer (some ⟨b1, 0, none⟩)) :: (.pointer (some ⟨b2, 0, none⟩)) :: (.pointer (some ⟨b3, 0, none⟩)) :: (.pointer (some ⟨b4, 0, none⟩)) :: z5 :: (.agg (arr 4 (limb c))) :: (.agg (arr 4 (limb a))) :: (.bool bit) :: (.agg (arr 4 (limb (cond bit c a)))) :: (.agg (arr 4 (limb a))) :: (.agg (arr 4 (limb c))) :: (.bool bit) :: (.agg (arr 4 (limb (cond bit a c)))) :: zz), defers := [] } w := by
  obtain ⟨hQ, hb1, hb2, hb3, nb3, hb4, nb4, eb1b2, _⟩ := id C
  refine wpAnyH_ready (rs := [9]) (by kernel_rfl) (by simp) ?_
  refine AllReadyH.cons (o := cl0Op9) rfl (fun K hK => ?_) AllReadyH.nil
  rw [if_pos (by rfl)]
  refine wp_store_row 32 _ _ rfl b1 (arr 4 (limb (cond bit a c))) (by kernel_rfl) (by kernel_rfl) 32 _ Bb1 (size_fe _) (by rw [arr_size, arr_size]) (one_fe _) ?_
  have hS' := hS.old (x := b1) (by simp) (arr 4 (limb (cond bit a c)))
  refine hK.out _ _ hS' (fun _ => ?_)
  exact wpAnyH_at (by kernel_rfl) (by kernel_rfl) (cl0_0 C (w.setRow b1 (arr 4 (limb (cond bit a c)))) hS' (Bb1.row (arr 4 (limb (cond bit a c)))) (Bb2.rowOther (arr 4 (limb (cond bit a c))) eb1b2))
set_option maxRecDepth 100000 in
set_option maxHeartbeats 2000000 in
theorem cl0_2 (C : cl0C Q u z5 z6 z7 z8 z9 z10 z11 z12 z13 zz b1 b2 b3 b4 bit a b c d) (w : World) (hS : Kp [b1, b2] u w) (Bb1 : Blk w b1 (arr 4 (limb c)) 32) (Bb2 : Blk w b2 (arr 4 (limb a)) 32) :
    wpAnyH Try.prog .any cl0Ops Q (Kp [b1, b2] u) 2 (List.toArray (true :: true :: true :: true :: true :: true :: true :: true :: false :: false :: [])) { tmps := List.toArray ((.bool bit) :: (.pointer (some ⟨b1, 0, none⟩)) :: (.pointer (some ⟨b2, 0, none⟩)) :: (.pointer (some ⟨b3, 0, none⟩)) :: (.pointer (some ⟨b4, 0, none⟩)) :: z5 :: (.agg (arr 4 (limb c))) :: (.agg (arr 4 (limb a))) :: (.bool bit) :: (.agg (arr 4 (limb (cond bit c a)))) :: (.agg (arr 4 (limb a))) :: (.agg (arr 4 (limb c))) :: (.bool bit) :: (.agg (arr 4 (limb (cond bit a c)))) :: zz), defers := [] } w := by
  obtain ⟨hQ, hb1, hb2, hb3, nb3, hb4, nb4, eb1b2, _⟩ := id C
  refine wpAnyH_ready (rs := [8]) (by kernel_rfl) (by simp) ?_
  refine AllReadyH.cons (o := cl0Op8) rfl (fun K hK => ?_) AllReadyH.nil
  rw [if_pos (by rfl)]
  refine wp_store_row 32 _ _ rfl b2 (arr 4 (limb (cond bit c a))) (by kernel_rfl) (by kernel_rfl) 32 _ Bb2 (size_fe _) (by rw [arr_size, arr_size]) (one_fe _) ?_
  have hS' := hS.old (x := b2) (by simp) (arr 4 (limb (cond bit c a)))
  refine hK.out _ _ hS' (fun _ => ?_)
  exact wpAnyH_at (by kernel_rfl) (by kernel_rfl) (cl0_1 C (w.setRow b2 (arr 4 (limb (cond bit c a)))) hS' (Bb1.rowOther (arr 4 (limb (cond bit c a))) (Ne.symm eb1b2)) (Bb2.row (arr 4 (limb (cond bit c a)))))
set_option maxRecDepth 100000 in
set_option maxHeartbeats 2000000 in
theorem cl0_3 (C : cl0C Q u z5 z6 z7 z8 z9 z10 z11 z12 z13 zz b1 b2 b3 b4 bit a b c d) (w : World) (hS : Kp [b1, b2] u w) (Bb1 : Blk w b1 (arr 4 (limb c)) 32) (Bb2 : Blk w b2 (arr 4 (limb a)) 32) :
    wpAnyH Try.prog .any cl0Ops Q (Kp [b1, b2] u) 3 (List.toArray (true :: true :: true :: true :: true :: true :: true :: false :: false :: false :: [])) { tmps := List.toArray ((.bool bit) :: (.pointer (some ⟨b1, 0, none⟩)) :: (.pointer (some ⟨b2, 0, none⟩)) :: (.pointer (some ⟨b3, 0, none⟩)) :: (.pointer (some ⟨b4, 0, none⟩)) :: z5 :: (.agg (arr 4 (limb c))) :: (.agg (arr 4 (limb a))) :: (.bool bit) :: (.agg (arr 4 (limb (cond bit c a)))) :: (.agg (arr 4 (limb a))) :: (.agg (arr 4 (limb c))) :: (.bool bit) :: z13 :: zz), defers := [] } w := by
  obtain ⟨hQ, hb1, hb2, hb3, nb3, hb4, nb4, eb1b2, _⟩ := id C
  refine wpAnyH_ready (rs := [7]) (by kernel_rfl) (by simp) ?_
  refine AllReadyH.cons (o := cl0Op7) rfl (fun K hK => ?_) AllReadyH.nil
  rw [if_pos (by rfl)]
  refine wp_call_val 19 #[.agg (arr 4 (limb a)), .agg (arr 4 (limb c)), .bool bit] (by kernel_rfl) (.agg (arr 4 (limb (cond bit a c)))) (pick_c a c bit _) ?_
  intro w' hbw
  have hS' := hS.call hbw
  refine hK.out _ _ hS' (fun _ => ?_)
  exact wpAnyH_at (by kernel_rfl) (by kernel_rfl) (cl0_2 C w' hS' (Bb1.call hbw) (Bb2.call hbw))
set_option maxRecDepth 100000 in
set_option maxHeartbeats 2000000 in
theorem cl0_4 (C : cl0C Q u z5 z6 z7 z8 z9 z10 z11 z12 z13 zz b1 b2 b3 b4 bit a b c d) (w : World) (hS : Kp [b1, b2] u w) (Bb1 : Blk w b1 (arr 4 (limb c)) 32) (Bb2 : Blk w b2 (arr 4 (limb a)) 32) :
    wpAnyH Try.prog .any cl0Ops Q (Kp [b1, b2] u) 4 (List.toArray (true :: true :: true :: false :: true :: true :: true :: false :: false :: false :: [])) { tmps := List.toArray ((.bool bit) :: (.pointer (some ⟨b1, 0, none⟩)) :: (.pointer (some ⟨b2, 0, none⟩)) :: (.pointer (some ⟨b3, 0, none⟩)) :: (.pointer (some ⟨b4, 0, none⟩)) :: z5 :: (.agg (arr 4 (limb c))) :: (.agg (arr 4 (limb a))) :: (.bool bit) :: z9 :: (.agg (arr 4 (limb a))) :: (.agg (arr 4 (limb c))) :: (.bool bit) :: z13 :: zz), defers := [] } w := by
  obtain ⟨hQ, hb1, hb2, hb3, nb3, hb4, nb4, eb1b2, _⟩ := id C
  refine wpAnyH_ready (rs := [3]) (by kernel_rfl) (by simp) ?_
  refine AllReadyH.cons (o := cl0Op3) rfl (fun K hK => ?_) AllReadyH.nil
  rw [if_pos (by rfl)]
  refine wp_call_val 19 #[.agg (arr 4 (limb c)), .agg (arr 4 (limb a)), .bool bit] (by kernel_rfl) (.agg (arr 4 (limb (cond bit c a)))) (pick_c c a bit _) ?_
  intro w' hbw
  have hS' := hS.call hbw
  refine hK.out _ _ hS' (fun _ => ?_)
  exact wpAnyH_at (by kernel_rfl) (by kernel_rfl) (cl0_3 C w' hS' (Bb1.call hbw) (Bb2.call hbw))
set_option maxRecDepth 100000 in
set_option maxHeartbeats 2000000 in
theorem cl0_5 (C : cl0C Q u z5 z6 z7 z8 z9 z10 z11 z12 z13 zz b1 b2 b3 b4 bit a b c d) (w : World) (hS : Kp [b1, b2] u w) (Bb1 : Blk w b1 (arr 4 (limb c)) 32) (Bb2 : Blk w b2 (arr 4 (limb a)) 32) :
    wpAnyH Try.prog .any cl0Ops Q (Kp [b1, b2] u) 4 (List.toArray (true :: true :: true :: true :: false :: true :: true :: false :: false :: false :: [])) { tmps := List.toArray ((.bool bit) :: (.pointer (some ⟨b1, 0, none⟩)) :: (.pointer (some ⟨b2, 0, none⟩)) :: (.pointer (some ⟨b3, 0, none⟩)) :: (.pointer (some ⟨b4, 0, none⟩)) :: z5 :: (.agg (arr 4 (limb c))) :: (.agg (arr 4 (limb a))) :: (.bool bit) :: (.agg (arr 4 (limb (cond bit c a)))) :: z10 :: (.agg (arr 4 (limb c))) :: (.bool bit) :: z13 :: zz), defers := [] } w := by
  obtain ⟨hQ, hb1, hb2, hb3, nb3, hb4, nb4, eb1b2, _⟩ := id C
  refine wpAnyH_ready (rs := [4]) (by kernel_rfl) (by simp) ?_
  refine AllReadyH.cons (o := cl0Op4) rfl (fun K hK => ?_) AllReadyH.nil
  rw [if_pos (by rfl)]
  refine wp_load_row 32 _ rfl b2 (by kernel_rfl) 32 _ (0, 0) _ Bb2 Try.underlying32 rfl (size_fe _) ?_
  have hS' := hS
  refine hK.out _ _ hS' (fun _ => ?_)
  exact wpAnyH_at (by kernel_rfl) (by kernel_rfl) (cl0_3 C w hS' Bb1 Bb2)
set_option maxRecDepth 100000 in
set_option maxHeartbeats 2000000 in
theorem cl0_6 (C : cl0C Q u z5 z6 z7 z8 z9 z10 z11 z12 z13 zz b1 b2 b3 b4 bit a b c d) (w : World) (hS : Kp [b1, b2] u w) (Bb1 : Blk w b1 (arr 4 (limb c)) 32) (Bb2 : Blk w b2 (arr 4 (limb a)) 32) :
    wpAnyH Try.prog .any cl0Ops Q (Kp [b1, b2] u) 4 (List.toArray (true :: true :: true :: true :: true :: false :: true :: false :: false :: false :: [])) { tmps := List.toArray ((.bool bit) :: (.pointer (some ⟨b1, 0, none⟩)) :: (.pointer (some ⟨b2, 0, none⟩)) :: (.pointer (some ⟨b3, 0, none⟩)) :: (.pointer (some ⟨b4, 0, none⟩)) :: z5 :: (.agg (arr 4 (limb c))) :: (.agg (arr 4 (limb a))) :: (.bool bit) :: (.agg (arr 4 (limb (cond bit c a)))) :: (.agg (arr 4 (limb a))) :: z11 :: (.bool bit) :: z13 :: zz), defers := [] } w := by
  obtain ⟨hQ, hb1, hb2, hb3, nb3, hb4, nb4, eb1b2, _⟩ := id C
  refine wpAnyH_ready (rs := [5]) (by kernel_rfl) (by simp) ?_
  refine AllReadyH.cons (o := cl0Op5) rfl (fun K hK => ?_) AllReadyH.nil
  rw [if_pos (by rfl)]
  refine wp_load_row 32 _ rfl b1 (by kernel_rfl) 32 _ (0, 0) _ Bb1 Try.underlying32 rfl (size_fe _) ?_
  have hS' := hS
  refine hK.out _ _ hS' (fun _ => ?_)
  exact wpAnyH_at (by kernel_rfl) (by kernel_rfl) (cl0_3 C w hS' Bb1 Bb2)
set_option maxRecDepth 100000 in
set_option maxHeartbeats 2000000 in
theorem cl0_7 (C : cl0C Q u z5 z6 z7 z8 z9 z10 z11 z12 z13 zz b1 b2 b3 b4 bit a b c d) (w : World) (hS : Kp [b1, b2] u w) (Bb1 : Blk w b1 (arr 4 (limb c)) 32) (Bb2 : Blk w b2 (arr 4 (limb a)) 32) :
    wpAnyH Try.prog .any cl0Ops Q (Kp [b1, b2] u) 5 (List.toArray (false :: true :: true :: false :: true :: true :: true :: false :: false :: false :: [])) { tmps := List.toArray ((.bool bit) :: (.pointer (some ⟨b1, 0, none⟩)) :: (.pointer (some ⟨b2, 0, none⟩)) :: (.pointer (some ⟨b3, 0, none⟩)) :: (.pointer (some ⟨b4, 0, none⟩)) :: z5 :: z6 :: (.agg (arr 4 (limb a))) :: (.bool bit) :: z9 :: (.agg (arr 4 (limb a))) :: (.agg (arr 4 (limb c))) :: (.bool bit) :: z13 :: zz), defers := [] } w := by
  obtain ⟨hQ, hb1, hb2, hb3, nb3, hb4, nb4, eb1b2, _⟩ := id C
  refine wpAnyH_ready (rs := [0]) (by kernel_rfl) (by simp) ?_
  refine AllReadyH.cons (o := cl0Op0) rfl (fun K hK => ?_) AllReadyH.nil
  rw [if_pos (by rfl)]
  refine wp_load_row 32 _ rfl b1 (by kernel_rfl) 32 _ (0, 0) _ Bb1 Try.underlying32 rfl (size_fe _) ?_
  have hS' := hS
  refine hK.out _ _ hS' (fun _ => ?_)
  exact wpAnyH_at (by kernel_rfl) (by kernel_rfl) (cl0_4 C w hS' Bb1 Bb2)
set_option maxRecDepth 100000 in
set_option maxHeartbeats 2000000 in
theorem cl0_8 (C : cl0C Q u z5 z6 z7 z8 z9 z10 z11 z12 z13 zz b1 b2 b3 b4 bit a b c d) (w : World) (hS : Kp [b1, b2] u w) (Bb1 : Blk w b1 (arr 4 (limb c)) 32) (Bb2 : Blk w b2 (arr 4 (limb a)) 32) :
    wpAnyH Try.prog .any cl0Ops Q (Kp [b1, b2] u) 5 (List.toArray (true :: false :: true :: false :: true :: true :: true :: false :: false :: false :: [])) { tmps := List.toArray ((.bool bit) :: (.pointer (some ⟨b1, 0, none⟩)) :: (.pointer (some ⟨b2, 0, none⟩)) :: (.pointer (some ⟨b3, 0, none⟩)) :: (.pointer (some ⟨b4, 0, none⟩)) :: z5 :: (.agg (arr 4 (limb c))) :: z7 :: (.bool bit) :: z9 :: (.agg (arr 4 (limb a))) :: (.agg (arr 4 (limb c))) :: (.bool bit) :: z13 :: zz), defers := [] } w := by
  obtain ⟨hQ, hb1, hb2, hb3, nb3, hb4, nb4, eb1b2, _⟩ := id C
  refine wpAnyH_ready (rs := [1]) (by kernel_rfl) (by simp) ?_
  refine AllReadyH.cons (o := cl0Op1) rfl (fun K hK => ?_) AllReadyH.nil
  rw [if_pos (by rfl)]
  refine wp_load_row 32 _ rfl b2 (by kernel_rfl) 32 _ (0, 0) _ Bb2 Try.underlying32 rfl (size_fe _) ?_
  have hS' := hS
  refine hK.out _ _ hS' (fun _ => ?_)
  exact wpAnyH_at (by kernel_rfl) (by kernel_rfl) (cl0_4 C w hS' Bb1 Bb2)
set_option maxRecDepth 100000 in
set_option maxHeartbeats 2000000 in
theorem cl0_9 (C : cl0C Q u z5 z6 z7 z8 z9 z10 z11 z12 z13 zz b1 b2 b3 b4 bit a b c d) (w : World) (hS : Kp [b1, b2] u w) (Bb1 : Blk w b1 (arr 4 (limb c)) 32) (Bb2 : Blk w b2 (arr 4 (limb a)) 32) :
    wpAnyH Try.prog .any cl0Ops Q (Kp [b1, b2] u) 5 (List.toArray (true :: true :: true :: false :: false :: true :: true :: false :: false :: false :: [])) { tmps := List.toArray ((.bool bit) :: (.pointer (some ⟨b1, 0, none⟩)) :: (.pointer (some ⟨b2, 0, none⟩)) :: (.pointer (some ⟨b3, 0, none⟩)) :: (.pointer (some ⟨b4, 0, none⟩)) :: z5 :: (.agg (arr 4 (limb c))) :: (.agg (arr 4 (limb a))) :: (.bool bit) :: z9 :: z10 :: (.agg (arr 4 (limb c))) :: (.bool bit) :: z13 :: zz), defers := [] } w := by
  obtain ⟨hQ, hb1, hb2, hb3, nb3, hb4, nb4, eb1b2, _⟩ := id C
  refine wpAnyH_ready (rs := [3, 4]) (by kernel_rfl) (by simp) ?_
  refine AllReadyH.cons (o := cl0Op3) rfl (fun K hK => ?_) ?_
  · skip
    rw [if_pos (by rfl)]
    refine wp_call_val 19 #[.agg (arr 4 (limb c)), .agg (arr 4 (limb a)), .bool bit] (by kernel_rfl) (.agg (arr 4 (limb (cond bit c a)))) (pick_c c a bit _) ?_
    intro w' hbw
    have hS' := hS.call hbw
    refine hK.out _ _ hS' (fun _ => ?_)
    exact wpAnyH_at (by kernel_rfl) (by kernel_rfl) (cl0_5 C w' hS' (Bb1.call hbw) (Bb2.call hbw))
  refine AllReadyH.cons (o := cl0Op4) rfl (fun K hK => ?_) AllReadyH.nil
  rw [if_pos (by rfl)]
  refine wp_load_row 32 _ rfl b2 (by kernel_rfl) 32 _ (0, 0) _ Bb2 Try.underlying32 rfl (size_fe _) ?_
  have hS' := hS
  refine hK.out _ _ hS' (fun _ => ?_)
  exact wpAnyH_at (by kernel_rfl) (by kernel_rfl) (cl0_4 C w hS' Bb1 Bb2)
set_option maxRecDepth 100000 in
set_option maxHeartbeats 2000000 in
theorem cl0_10 (C : cl0C Q u z5 z6 z7 z8 z9 z10 z11 z12 z13 zz b1 b2 b3 b4 bit a b c d) (w : World) (hS : Kp [b1, b2] u w) (Bb1 : Blk w b1 (arr 4 (limb c)) 32) (Bb2 : Blk w b2 (arr 4 (limb a)) 32) :
    wpAnyH Try.prog .any cl0Ops Q (Kp [b1, b2] u) 5 (List.toArray (true :: true :: true :: false :: true :: false :: true :: false :: false :: false :: [])) { tmps := List.toArray ((.bool bit) :: (.pointer (some ⟨b1, 0, none⟩)) :: (.pointer (some ⟨b2, 0, none⟩)) :: (.pointer (some ⟨b3, 0, none⟩)) :: (.pointer (some ⟨b4, 0, none⟩)) :: z5 :: (.agg (arr 4 (limb c))) :: (.agg (arr 4 (limb a))) :: (.bool bit) :: z9 :: (.agg (arr 4 (limb a))) :: z11 :: (.bool bit) :: z13 :: zz), defers := [] } w := by
  obtain ⟨hQ, hb1, hb2, hb3, nb3, hb4, nb4, eb1b2, _⟩ := id C
  refine wpAnyH_ready (rs := [3, 5]) (by kernel_rfl) (by simp) ?_
  refine AllReadyH.cons (o := cl0Op3) rfl (fun K hK => ?_) ?_
  · skip
    rw [if_pos (by rfl)]
    refine wp_call_val 19 #[.agg (arr 4 (limb c)), .agg (arr 4 (limb a)), .bool bit] (by kernel_rfl) (.agg (arr 4 (limb (cond bit c a)))) (pick_c c a bit _) ?_
    intro w' hbw
    have hS' := hS.call hbw
    refine hK.out _ _ hS' (fun _ => ?_)
    exact wpAnyH_at (by kernel_rfl) (by kernel_rfl) (cl0_6 C w' hS' (Bb1.call hbw) (Bb2.call hbw))
  refine AllReadyH.cons (o := cl0Op5) rfl (fun K hK => ?_) AllReadyH.nil
  rw [if_pos (by rfl)]
  refine wp_load_row 32 _ rfl b1 (by kernel_rfl) 32 _ (0, 0) _ Bb1 Try.underlying32 rfl (size_fe _) ?_
  have hS' := hS
  refine hK.out _ _ hS' (fun _ => ?_)
  exact wpAnyH_at (by kernel_rfl) (by kernel_rfl) (cl0_4 C w hS' Bb1 Bb2)
set_option maxRecDepth 100000 in
set_option maxHeartbeats 2000000 in
theorem cl0_11 (C : cl0C Q u z5 z6 z7 z8 z9 z10 z11 z12 z13 zz b1 b2 b3 b4 bit a b c d) (w : World) (hS : Kp [b1, b2] u w) (Bb1 : Blk w b1 (arr 4 (limb c)) 32) (Bb2 : Blk w b2 (arr 4 (limb a)) 32) :
    wpAnyH Try.prog .any cl0Ops Q (Kp [b1, b2] u) 5 (List.toArray (true :: true :: true :: true :: false :: false :: true :: false :: false :: false :: [])) { tmps := List.toArray ((.bool bit) :: (.pointer (some ⟨b1, 0, none⟩)) :: (.pointer (some ⟨b2, 0, none⟩)) :: (.pointer (some ⟨b3, 0, none⟩)) :: (.pointer (some ⟨b4, 0, none⟩)) :: z5 :: (.agg (arr 4 (limb c))) :: (.agg (arr 4 (limb a))) :: (.bool bit) :: (.agg (arr 4 (limb (cond bit c a)))) :: z10 :: z11 :: (.bool bit) :: z13 :: zz), defers := [] } w := by
  obtain ⟨hQ, hb1, hb2, hb3, nb3, hb4, nb4, eb1b2, _⟩ := id C
  refine wpAnyH_ready (rs := [4, 5]) (by kernel_rfl) (by simp) ?_
  refine AllReadyH.cons (o := cl0Op4) rfl (fun K hK => ?_) ?_
  · skip
    rw [if_pos (by rfl)]
    refine wp_load_row 32 _ rfl b2 (by kernel_rfl) 32 _ (0, 0) _ Bb2 Try.underlying32 rfl (size_fe _) ?_
    have hS' := hS
    refine hK.out _ _ hS' (fun _ => ?_)
    exact wpAnyH_at (by kernel_rfl) (by kernel_rfl) (cl0_6 C w hS' Bb1 Bb2)
  refine AllReadyH.cons (o := cl0Op5) rfl (fun K hK => ?_) AllReadyH.nil
  rw [if_pos (by rfl)]
  refine wp_load_row 32 _ rfl b1 (by kernel_rfl) 32 _ (0, 0) _ Bb1 Try.underlying32 rfl (size_fe _) ?_
  have hS' := hS
  refine hK.out _ _ hS' (fun _ => ?_)
  exact wpAnyH_at (by kernel_rfl) (by kernel_rfl) (cl0_5 C w hS' Bb1 Bb2)
set_option maxRecDepth 100000 in
set_option maxHeartbeats 2000000 in
theorem cl0_12 (C : cl0C Q u z5 z6 z7 z8 z9 z10 z11 z12 z13 zz b1 b2 b3 b4 bit a b c d) (w : World) (hS : Kp [b1, b2] u w) (Bb1 : Blk w b1 (arr 4 (limb c)) 32) (Bb2 : Blk w b2 (arr 4 (limb a)) 32) :
    wpAnyH Try.prog .any cl0Ops Q (Kp [b1, b2] u) 6 (List.toArray (false :: false :: true :: false :: true :: true :: true :: false :: false :: false :: [])) { tmps := List.toArray ((.bool bit) :: (.pointer (some ⟨b1, 0, none⟩)) :: (.pointer (some ⟨b2, 0, none⟩)) :: (.pointer (some ⟨b3, 0, none⟩)) :: (.pointer (some ⟨b4, 0, none⟩)) :: z5 :: z6 :: z7 :: (.bool bit) :: z9 :: (.agg (arr 4 (limb a))) :: (.agg (arr 4 (limb c))) :: (.bool bit) :: z13 :: zz), defers := [] } w := by
  obtain ⟨hQ, hb1, hb2, hb3, nb3, hb4, nb4, eb1b2, _⟩ := id C
  refine wpAnyH_ready (rs := [0, 1]) (by kernel_rfl) (by simp) ?_
  refine AllReadyH.cons (o := cl0Op0) rfl (fun K hK => ?_) ?_
  · skip
    rw [if_pos (by rfl)]
    refine wp_load_row 32 _ rfl b1 (by kernel_rfl) 32 _ (0, 0) _ Bb1 Try.underlying32 rfl (size_fe _) ?_
    have hS' := hS
    refine hK.out _ _ hS' (fun _ => ?_)
    exact wpAnyH_at (by kernel_rfl) (by kernel_rfl) (cl0_8 C w hS' Bb1 Bb2)
  refine AllReadyH.cons (o := cl0Op1) rfl (fun K hK => ?_) AllReadyH.nil
  rw [if_pos (by rfl)]
  refine wp_load_row 32 _ rfl b2 (by kernel_rfl) 32 _ (0, 0) _ Bb2 Try.underlying32 rfl (size_fe _) ?_
  have hS' := hS
  refine hK.out _ _ hS' (fun _ => ?_)
  exact wpAnyH_at (by kernel_rfl) (by kernel_rfl) (cl0_7 C w hS' Bb1 Bb2)
set_option maxRecDepth 100000 in
set_option maxHeartbeats 2000000 in
theorem cl0_13 (C : cl0C Q u z5 z6 z7 z8 z9 z10 z11 z12 z13 zz b1 b2 b3 b4 bit a b c d) (w : World) (hS : Kp [b1, b2] u w) (Bb1 : Blk w b1 (arr 4 (limb c)) 32) (Bb2 : Blk w b2 (arr 4 (limb a)) 32) :
    wpAnyH Try.prog .any cl0Ops Q (Kp [b1, b2] u) 6 (List.toArray (false :: true :: true :: false :: false :: true :: true :: false :: false :: false :: [])) { tmps := List.toArray ((.bool bit) :: (.pointer (some ⟨b1, 0, none⟩)) :: (.pointer (some ⟨b2, 0, none⟩)) :: (.pointer (some ⟨b3, 0, none⟩)) :: (.pointer (some ⟨b4, 0, none⟩)) :: z5 :: z6 :: (.agg (arr 4 (limb a))) :: (.bool bit) :: z9 :: z10 :: (.agg (arr 4 (limb c))) :: (.bool bit) :: z13 :: zz), defers := [] } w := by
  obtain ⟨hQ, hb1, hb2, hb3, nb3, hb4, nb4, eb1b2, _⟩ := id C
  refine wpAnyH_ready (rs := [0, 4]) (by kernel_rfl) (by simp) ?_
  refine AllReadyH.cons (o := cl0Op0) rfl (fun K hK => ?_) ?_
  · skip
    rw [if_pos (by rfl)]
    refine wp_load_row 32 _ rfl b1 (by kernel_rfl) 32 _ (0, 0) _ Bb1 Try.underlying32 rfl (size_fe _) ?_
    have hS' := hS
    refine hK.out _ _ hS' (fun _ => ?_)
    exact wpAnyH_at (by kernel_rfl) (by kernel_rfl) (cl0_9 C w hS' Bb1 Bb2)
  refine AllReadyH.cons (o := cl0Op4) rfl (fun K hK => ?_) AllReadyH.nil
  rw [if_pos (by rfl)]
  refine wp_load_row 32 _ rfl b2 (by kernel_rfl) 32 _ (0, 0) _ Bb2 Try.underlying32 rfl (size_fe _) ?_
  have hS' := hS
  refine hK.out _ _ hS' (fun _ => ?_)
  exact wpAnyH_at (by kernel_rfl) (by kernel_rfl) (cl0_7 C w hS' Bb1 Bb2)
set_option maxRecDepth 100000 in
set_option maxHeartbeats 2000000 in
theorem cl0_14 (C : cl0C Q u z5 z6 z7 z8 z9 z10 z11 z12 z13 zz b1 b2 b3 b4 bit a b c d) (w : World) (hS : Kp [b1, b2] u w) (Bb1 : Blk w b1 (arr 4 (limb c)) 32) (Bb2 : Blk w b2 (arr 4 (limb a)) 32) :
    wpAnyH Try.prog .any cl0Ops Q (Kp [b1, b2] u) 6 (List.toArray (true :: false :: true :: false :: false :: true :: true :: false :: false :: false :: [])) { tmps := List.toArray ((.bool bit) :: (.pointer (some ⟨b1, 0, none⟩)) :: (.pointer (some ⟨b2, 0, none⟩)) :: (.pointer (some ⟨b3, 0, none⟩)) :: (.pointer (some ⟨b4, 0, none⟩)) :: z5 :: (.agg (arr 4 (limb c))) :: z7 :: (.bool bit) :: z9 :: z10 :: (.agg (arr 4 (limb c))) :: (.bool bit) :: z13 :: zz), defers := [] } w := by
  obtain ⟨hQ, hb1, hb2, hb3, nb3, hb4, nb4, eb1b2, _⟩ := id C
  refine wpAnyH_ready (rs := [1, 4]) (by kernel_rfl) (by simp) ?_
  refine AllReadyH.cons (o := cl0Op1) rfl (fun K hK => ?_) ?_
  · skip
    rw [if_pos (by rfl)]
    refine wp_load_row 32 _ rfl b2 (by kernel_rfl) 32 _ (0, 0) _ Bb2 Try.underlying32 rfl (size_fe _) ?_
    have hS' := hS
    refine hK.out _ _ hS' (fun _ => ?_)
    exact wpAnyH_at (by kernel_rfl) (by kernel_rfl) (cl0_9 C w hS' Bb1 Bb2)
  refine AllReadyH.cons (o := cl0Op4) rfl (fun K hK => ?_) AllReadyH.nil
  rw [if_pos (by rfl)]
  refine wp_load_row 32 _ rfl b2 (by kernel_rfl) 32 _ (0, 0) _ Bb2 Try.underlying32 rfl (size_fe _) ?_
  have hS' := hS
  refine hK.out _ _ hS' (fun _ => ?_)
  exact wpAnyH_at (by kernel_rfl) (by kernel_rfl) (cl0_8 C w hS' Bb1 Bb2)
set_option maxRecDepth 100000 in
set_option maxHeartbeats 2000000 in
theorem cl0_15 (C : cl0C Q u z5 z6 z7 z8 z9 z10 z11 z12 z13 zz b1 b2 b3 b4 bit a b c d) (w : World) (hS : Kp [b1, b2] u w) (Bb1 : Blk w b1 (arr 4 (limb c)) 32) (Bb2 : Blk w b2 (arr 4 (limb a)) 32) :
    wpAnyH Try.prog .any cl0Ops Q (Kp [b1, b2] u) 6 (List.toArray (false :: true :: true :: false :: true :: false :: true :: false :: false :: false :: [])) { tmps := List.toArray ((.bool bit) :: (.pointer (some ⟨b1, 0, none⟩)) :: (.pointer (some ⟨b2, 0, none⟩)) :: (.pointer (some ⟨b3, 0, none⟩)) :: (.pointer (some ⟨b4, 0, none⟩)) :: z5 :: z6 :: (.agg (arr 4 (limb a))) :: (.bool bit) :: z9 :: (.agg (arr 4 (limb a))) :: z11 :: (.bool bit) :: z13 :: zz), defers := [] } w := by
  obtain ⟨hQ, hb1, hb2, hb3, nb3, hb4, nb4, eb1b2, _⟩ := id C
  refine wpAnyH_ready (rs := [0, 5]) (by kernel_rfl) (by simp) ?_
  refine AllReadyH.cons (o := cl0Op0) rfl (fun K hK => ?_) ?_
  · skip
    rw [if_pos (by rfl)]
    refine wp_load_row 32 _ rfl b1 (by kernel_rfl) 32 _ (0, 0) _ Bb1 Try.underlying32 rfl (size_fe _) ?_
    have hS' := hS
    refine hK.out _ _ hS' (fun _ => ?_)
    exact wpAnyH_at (by kernel_rfl) (by kernel_rfl) (cl0_10 C w hS' Bb1 Bb2)
  refine AllReadyH.cons (o := cl0Op5) rfl (fun K hK => ?_) AllReadyH.nil
  rw [if_pos (by rfl)]
  refine wp_load_row 32 _ rfl b1 (by kernel_rfl) 32 _ (0, 0) _ Bb1 Try.underlying32 rfl (size_fe _) ?_
  have hS' := hS
  refine hK.out _ _ hS' (fun _ => ?_)
  exact wpAnyH_at (by kernel_rfl) (by kernel_rfl) (cl0_7 C w hS' Bb1 Bb2)
set_option maxRecDepth 100000 in
set_option maxHeartbeats 2000000 in
theorem cl0_16 (C : cl0C Q u z5 z6 z7 z8 z9 z10 z11 z12 z13 zz b1 b2 b3 b4 bit a b c d) (w : World) (hS : Kp [b1, b2] u w) (Bb1 : Blk w b1 (arr 4 (limb c)) 32) (Bb2 : Blk w b2 (arr 4 (limb a)) 32) :
    wpAnyH Try.prog .any cl0Ops Q (Kp [b1, b2] u) 6 (List.toArray (true :: false :: true :: false :: true :: false :: true :: false :: false :: false :: [])) { tmps := List.toArray ((.bool bit) :: (.pointer (some ⟨b1, 0, none⟩)) :: (.pointer (some ⟨b2, 0, none⟩)) :: (.pointer (some ⟨b3, 0, none⟩)) :: (.pointer (some ⟨b4, 0, none⟩)) :: z5 :: (.agg (arr 4 (limb c))) :: z7 :: (.bool bit) :: z9 :: (.agg (arr 4 (limb a))) :: z11 :: (.bool bit) :: z13 :: zz), defers := [] } w := by
  obtain ⟨hQ, hb1, hb2, hb3, nb3, hb4, nb4, eb1b2, _⟩ := id C
  refine wpAnyH_ready (rs := [1, 5]) (by kernel_rfl) (by simp) ?_
  refine AllReadyH.cons (o := cl0Op1) rfl (fun K hK => ?_) ?_
  · skip
    rw [if_pos (by rfl)]
    refine wp_load_row 32 _ rfl b2 (by kernel_rfl) 32 _ (0, 0) _ Bb2 Try.underlying32 rfl (size_fe _) ?_
    have hS' := hS
    refine hK.out _ _ hS' (fun _ => ?_)
    exact wpAnyH_at (by kernel_rfl) (by kernel_rfl) (cl0_10 C w hS' Bb1 Bb2)
  refine AllReadyH.cons (o := cl0Op5) rfl (fun K hK => ?_) AllReadyH.nil
  rw [if_pos (by rfl)]
  refine wp_load_row 32 _ rfl b1 (by kernel_rfl) 32 _ (0, 0) _ Bb1 Try.underlying32 rfl (size_fe _) ?_
  have hS' := hS
  refine hK.out _ _ hS' (fun _ => ?_)
  exact wpAnyH_at (by kernel_rfl) (by kernel_rfl) (cl0_8 C w hS' Bb1 Bb2)
set_option maxRecDepth 100000 in
set_option maxHeartbeats 2000000 in
theorem cl0_17 (C : cl0C Q u z5 z6 z7 z8 z9 z10 z11 z12 z13 zz b1 b2 b3 b4 bit a b c d) (w : World) (hS : Kp [b1, b2] u w) (Bb1 : Blk w b1 (arr 4 (limb c)) 32) (Bb2 : Blk w b2 (arr 4 (limb a)) 32) :
    wpAnyH Try.prog .any cl0Ops Q (Kp [b1, b2] u) 6 (List.toArray (true :: true :: true :: false :: false :: false :: true :: false :: false :: false :: [])) { tmps := List.toArray ((.bool bit) :: (.pointer (some ⟨b1, 0, none⟩)) :: (.pointer (some ⟨b2, 0, none⟩)) :: (.pointer (some ⟨b3, 0, none⟩)) :: (.pointer (some ⟨b4, 0, none⟩)) :: z5 :: (.agg (arr 4 (limb c))) :: (.agg (arr 4 (limb a))) :: (.bool bit) :: z9 :: z10 :: z11 :: (.bool bit) :: z13 :: zz), defers := [] } w := by
  obtain ⟨hQ, hb1, hb2, hb3, nb3, hb4, nb4, eb1b2, _⟩ := id C
  refine wpAnyH_ready (rs := [3, 4, 5]) (by kernel_rfl) (by simp) ?_
  refine AllReadyH.cons (o := cl0Op3) rfl (fun K hK => ?_) ?_
  · skip
    rw [if_pos (by rfl)]
    refine wp_call_val 19 #[.agg (arr 4 (limb c)), .agg (arr 4 (limb a)), .bool bit] (by kernel_rfl) (.agg (arr 4 (limb (cond bit c a)))) (pick_c c a bit _) ?_
    intro w' hbw
    have hS' := hS.call hbw
    refine hK.out _ _ hS' (fun _ => ?_)
    exact wpAnyH_at (by kernel_rfl) (by kernel_rfl) (cl0_11 C w' hS' (Bb1.call hbw) (Bb2.call hbw))
  refine AllReadyH.cons (o := cl0Op4) rfl (fun K hK => ?_) ?_
  · skip
    rw [if_pos (by rfl)]
    refine wp_load_row 32 _ rfl b2 (by kernel_rfl) 32 _ (0, 0) _ Bb2 Try.underlying32 rfl (size_fe _) ?_
    have hS' := hS
    refine hK.out _ _ hS' (fun _ => ?_)
    exact wpAnyH_at (by kernel_rfl) (by kernel_rfl) (cl0_10 C w hS' Bb1 Bb2)
  refine AllReadyH.cons (o := cl0Op5) rfl (fun K hK => ?_) AllReadyH.nil
  rw [if_pos (by rfl)]
  refine wp_load_row 32 _ rfl b1 (by kernel_rfl) 32 _ (0, 0) _ Bb1 Try.underlying32 rfl (size_fe _) ?_
  have hS' := hS
  refine hK.out _ _ hS' (fun _ => ?_)
  exact wpAnyH_at (by kernel_rfl) (by kernel_rfl) (cl0_9 C w hS' Bb1 Bb2)
set_option maxRecDepth 100000 in
set_option maxHeartbeats 2000000 in
theorem cl0_18 (C : cl0C Q u z5 z6 z7 z8 z9 z10 z11 z12 z13 zz b1 b2 b3 b4 bit a b c d) (w : World) (hS : Kp [b1, b2] u w) (Bb1 : Blk w b1 (arr 4 (limb c)) 32) (Bb2 : Blk w b2 (arr 4 (limb a)) 32) :
    wpAnyH Try.prog .any cl0Ops Q (Kp [b1, b2] u) 7 (List.toArray (false :: false :: true :: false :: false :: true :: true :: false :: false :: false :: [])) { tmps := List.toArray ((.bool bit) :: (.pointer (some ⟨b1, 0, none⟩)) :: (.pointer (some ⟨b2, 0, none⟩)) :: (.pointer (some ⟨b3, 0, none⟩)) :: (.pointer (some ⟨b4, 0, none⟩)) :: z5 :: z6 :: z7 :: (.bool bit) :: z9 :: z10 :: (.agg (arr 4 (limb c))) :: (.bool bit) :: z13 :: zz), defers := [] } w := by
  obtain ⟨hQ, hb1, hb2, hb3, nb3, hb4, nb4, eb1b2, _⟩ := id C
  refine wpAnyH_ready (rs := [0, 1, 4]) (by kernel_rfl) (by simp) ?_
  refine AllReadyH.cons (o := cl0Op0) rfl (fun K hK => ?_) ?_
  · skip
    rw [if_pos (by rfl)]
    refine wp_load_row 32 _ rfl b1 (by kernel_rfl) 32 _ (0, 0) _ Bb1 Try.underlying32 rfl (size_fe _) ?_
    have hS' := hS
    refine hK.out _ _ hS' (fun _ => ?_)
    exact wpAnyH_at (by kernel_rfl) (by kernel_rfl) (cl0_14 C w hS' Bb1 Bb2)
  refine AllReadyH.cons (o := cl0Op1) rfl (fun K hK => ?_) ?_
  · skip
    rw [if_pos (by rfl)]
    refine wp_load_row 32 _ rfl b2 (by kernel_rfl) 32 _ (0, 0) _ Bb2 Try.underlying32 rfl (size_fe _) ?_
    have hS' := hS
    refine hK.out _ _ hS' (fun _ => ?_)
    exact wpAnyH_at (by kernel_rfl) (by kernel_rfl) (cl0_13 C w hS' Bb1 Bb2)
  refine AllReadyH.cons (o := cl0Op4) rfl (fun K hK => ?_) AllReadyH.nil
  rw [if_pos (by rfl)]
  refine wp_load_row 32 _ rfl b2 (by kernel_rfl) 32 _ (0, 0) _ Bb2 Try.underlying32 rfl (size_fe _) ?_
  have hS' := hS
  refine hK.out _ _ hS' (fun _ => ?_)
  exact wpAnyH_at (by kernel_rfl) (by kernel_rfl) (cl0_12 C w hS' Bb1 Bb2)
set_option maxRecDepth 100000 in
set_option maxHeartbeats 2000000 in
theorem cl0_19 (C : cl0C Q u z5 z6 z7 z8 z9 z10 z11 z12 z13 zz b1 b2 b3 b4 bit a b c d) (w : World) (hS : Kp [b1, b2] u w) (Bb1 : Blk w b1 (arr 4 (limb c)) 32) (Bb2 : Blk w b2 (arr 4 (limb a)) 32) :
    wpAnyH Try.prog .any cl0Ops Q (Kp [b1, b2] u) 7 (List.toArray (false :: false :: true :: false :: true :: false :: true :: false :: false :: false :: [])) { tmps := List.toArray ((.bool bit) :: (.pointer (some ⟨b1, 0, none⟩)) :: (.pointer (some ⟨b2, 0, none⟩)) :: (.pointer (some ⟨b3, 0, none⟩)) :: (.pointer (some ⟨b4, 0, none⟩)) :: z5 :: z6 :: z7 :: (.bool bit) :: z9 :: (.agg (arr 4 (limb a))) :: z11 :: (.bool bit) :: z13 :: zz), defers := [] } w := by
  obtain ⟨hQ, hb1, hb2, hb3, nb3, hb4, nb4, eb1b2, _⟩ := id C
  refine wpAnyH_ready (rs := [0, 1, 5]) (by kernel_rfl) (by simp) ?_
  refine AllReadyH.cons (o := cl0Op0) rfl (fun K hK => ?_) ?_
  · skip
    rw [if_pos (by rfl)]
    refine wp_load_row 32 _ rfl b1 (by kernel_rfl) 32 _ (0, 0) _ Bb1 Try.underlying32 rfl (size_fe _) ?_
    have hS' := hS
    refine hK.out _ _ hS' (fun _ => ?_)
    exact wpAnyH_at (by kernel_rfl) (by kernel_rfl) (cl0_16 C w hS' Bb1 Bb2)
  refine AllReadyH.cons (o := cl0Op1) rfl (fun K hK => ?_) ?_
  · skip
    rw [if_pos (by rfl)]
    refine wp_load_row 32 _ rfl b2 (by kernel_rfl) 32 _ (0, 0) _ Bb2 Try.underlying32 rfl (size_fe _) ?_
    have hS' := hS
    refine hK.out _ _ hS' (fun _ => ?_)
    exact wpAnyH_at (by kernel_rfl) (by kernel_rfl) (cl0_15 C w hS' Bb1 Bb2)
  refine AllReadyH.cons (o := cl0Op5) rfl (fun K hK => ?_) AllReadyH.nil
  rw [if_pos (by rfl)]
  refine wp_load_row 32 _ rfl b1 (by kernel_rfl) 32 _ (0, 0) _ Bb1 Try.underlying32 rfl (size_fe _) ?_
  have hS' := hS
  refine hK.out _ _ hS' (fun _ => ?_)
  exact wpAnyH_at (by kernel_rfl) (by kernel_rfl) (cl0_12 C w hS' Bb1 Bb2)
set_option maxRecDepth 100000 in
set_option maxHeartbeats 2000000 in
theorem cl0_20 (C : cl0C Q u z5 z6 z7 z8 z9 z10 z11 z12 z13 zz b1 b2 b3 b4 bit a b c d) (w : World) (hS : Kp [b1, b2] u w) (Bb1 : Blk w b1 (arr 4 (limb c)) 32) (Bb2 : Blk w b2 (arr 4 (limb a)) 32) :
    wpAnyH Try.prog .any cl0Ops Q (Kp [b1, b2] u) 7 (List.toArray (false :: true :: true :: false :: false :: false :: true :: false :: false :: false :: [])) { tmps := List.toArray ((.bool bit) :: (.pointer (some ⟨b1, 0, none⟩)) :: (.pointer (some ⟨b2, 0, none⟩)) :: (.pointer (some ⟨b3, 0, none⟩)) :: (.pointer (some ⟨b4, 0, none⟩)) :: z5 :: z6 :: (.agg (arr 4 (limb a))) :: (.bool bit) :: z9 :: z10 :: z11 :: (.bool bit) :: z13 :: zz), defers := [] } w := by
  obtain ⟨hQ, hb1, hb2, hb3, nb3, hb4, nb4, eb1b2, _⟩ := id C
  refine wpAnyH_ready (rs := [0, 4, 5]) (by kernel_rfl) (by simp) ?_
  refine AllReadyH.cons (o := cl0Op0) rfl (fun K hK => ?_) ?_
  · skip
    rw [if_pos (by rfl)]
    refine wp_load_row 32 _ rfl b1 (by kernel_rfl) 32 _ (0, 0) _ Bb1 Try.underlying32 rfl (size_fe _) ?_
    have hS' := hS
    refine hK.out _ _ hS' (fun _ => ?_)
    exact wpAnyH_at (by kernel_rfl) (by kernel_rfl) (cl0_17 C w hS' Bb1 Bb2)
  refine AllReadyH.cons (o := cl0Op4) rfl (fun K hK => ?_) ?_
  · skip
    rw [if_pos (by rfl)]
    refine wp_load_row 32 _ rfl b2 (by kernel_rfl) 32 _ (0, 0) _ Bb2 Try.underlying32 rfl (size_fe _) ?_
    have hS' := hS
    refine hK.out _ _ hS' (fun _ => ?_)
    exact wpAnyH_at (by kernel_rfl) (by kernel_rfl) (cl0_15 C w hS' Bb1 Bb2)
  refine AllReadyH.cons (o := cl0Op5) rfl (fun K hK => ?_) AllReadyH.nil
  rw [if_pos (by rfl)]
  refine wp_load_row 32 _ rfl b1 (by kernel_rfl) 32 _ (0, 0) _ Bb1 Try.underlying32 rfl (size_fe _) ?_
  have hS' := hS
  refine hK.out _ _ hS' (fun _ => ?_)
  exact wpAnyH_at (by kernel_rfl) (by kernel_rfl) (cl0_13 C w hS' Bb1 Bb2)
set_option maxRecDepth 100000 in
set_option maxHeartbeats 2000000 in
theorem cl0_21 (C : cl0C Q u z5 z6 z7 z8 z9 z10 z11 z12 z13 zz b1 b2 b3 b4 bit a b c d) (w : World) (hS : Kp [b1, b2] u w) (Bb1 : Blk w b1 (arr 4 (limb c)) 32) (Bb2 : Blk w b2 (arr 4 (limb a)) 32) :
    wpAnyH Try.prog .any cl0Ops Q (Kp [b1, b2] u) 7 (List.toArray (true :: false :: true :: false :: false :: false :: true :: false :: false :: false :: [])) { tmps := List.toArray ((.bool bit) :: (.pointer (some ⟨b1, 0, none⟩)) :: (.pointer (some ⟨b2, 0, none⟩)) :: (.pointer (some ⟨b3, 0, none⟩)) :: (.pointer (some ⟨b4, 0, none⟩)) :: z5 :: (.agg (arr 4 (limb c))) :: z7 :: (.bool bit) :: z9 :: z10 :: z11 :: (.bool bit) :: z13 :: zz), defers := [] } w := by
  obtain ⟨hQ, hb1, hb2, hb3, nb3, hb4, nb4, eb1b2, _⟩ := id C
  refine wpAnyH_ready (rs := [1, 4, 5]) (by kernel_rfl) (by simp) ?_
  refine AllReadyH.cons (o := cl0Op1) rfl (fun K hK => ?_) ?_
  · skip
    rw [if_pos (by rfl)]
    refine wp_load_row 32 _ rfl b2 (by kernel_rfl) 32 _ (0, 0) _ Bb2 Try.underlying32 rfl (size_fe _) ?_
    have hS' := hS
    refine hK.out _ _ hS' (fun _ => ?_)
    exact wpAnyH_at (by kernel_rfl) (by kernel_rfl) (cl0_17 C w hS' Bb1 Bb2)
  refine AllReadyH.cons (o := cl0Op4) rfl (fun K hK => ?_) ?_
  · skip
    rw [if_pos (by rfl)]
    refine wp_load_row 32 _ rfl b2 (by kernel_rfl) 32 _ (0, 0) _ Bb2 Try.underlying32 rfl (size_fe _) ?_
    have hS' := hS
    refine hK.out _ _ hS' (fun _ => ?_)
    exact wpAnyH_at (by kernel_rfl) (by kernel_rfl) (cl0_16 C w hS' Bb1 Bb2)
  refine AllReadyH.cons (o := cl0Op5) rfl (fun K hK => ?_) AllReadyH.nil
  rw [if_pos (by rfl)]
  refine wp_load_row 32 _ rfl b1 (by kernel_rfl) 32 _ (0, 0) _ Bb1 Try.underlying32 rfl (size_fe _) ?_
  have hS' := hS
  refine hK.out _ _ hS' (fun _ => ?_)
  exact wpAnyH_at (by kernel_rfl) (by kernel_rfl) (cl0_14 C w hS' Bb1 Bb2)
set_option maxRecDepth 100000 in
set_option maxHeartbeats 2000000 in
theorem cl0_22 (C : cl0C Q u z5 z6 z7 z8 z9 z10 z11 z12 z13 zz b1 b2 b3 b4 bit a b c d) (w : World) (hS : Kp [b1, b2] u w) (Bb1 : Blk w b1 (arr 4 (limb c)) 32) (Bb2 : Blk w b2 (arr 4 (limb a)) 32) :
    wpAnyH Try.prog .any cl0Ops Q (Kp [b1, b2] u) 8 (List.toArray (false :: false :: true :: false :: false :: false :: true :: false :: false :: false :: [])) { tmps := List.toArray ((.bool bit) :: (.pointer (some ⟨b1, 0, none⟩)) :: (.pointer (some ⟨b2, 0, none⟩)) :: (.pointer (some ⟨b3, 0, none⟩)) :: (.pointer (some ⟨b4, 0, none⟩)) :: z5 :: z6 :: z7 :: (.bool bit) :: z9 :: z10 :: z11 :: (.bool bit) :: z13 :: zz), defers := [] } w := by
  obtain ⟨hQ, hb1, hb2, hb3, nb3, hb4, nb4, eb1b2, _⟩ := id C
  refine wpAnyH_ready (rs := [0, 1, 4, 5]) (by kernel_rfl) (by simp) ?_
  refine AllReadyH.cons (o := cl0Op0) rfl (fun K hK => ?_) ?_
  · skip
    rw [if_pos (by rfl)]
    refine wp_load_row 32 _ rfl b1 (by kernel_rfl) 32 _ (0, 0) _ Bb1 Try.underlying32 rfl (size_fe _) ?_
    have hS' := hS
    refine hK.out _ _ hS' (fun _ => ?_)
    exact wpAnyH_at (by kernel_rfl) (by kernel_rfl) (cl0_21 C w hS' Bb1 Bb2)
  refine AllReadyH.cons (o := cl0Op1) rfl (fun K hK => ?_) ?_
  · skip
    rw [if_pos (by rfl)]
    refine wp_load_row 32 _ rfl b2 (by kernel_rfl) 32 _ (0, 0) _ Bb2 Try.underlying32 rfl (size_fe _) ?_
    have hS' := hS
    refine hK.out _ _ hS' (fun _ => ?_)
    exact wpAnyH_at (by kernel_rfl) (by kernel_rfl) (cl0_20 C w hS' Bb1 Bb2)
  refine AllReadyH.cons (o := cl0Op4) rfl (fun K hK => ?_) ?_
  · skip
    rw [if_pos (by rfl)]
    refine wp_load_row 32 _ rfl b2 (by kernel_rfl) 32 _ (0, 0) _ Bb2 Try.underlying32 rfl (size_fe _) ?_
    have hS' := hS
    refine hK.out _ _ hS' (fun _ => ?_)
    exact wpAnyH_at (by kernel_rfl) (by kernel_rfl) (cl0_19 C w hS' Bb1 Bb2)
  refine AllReadyH.cons (o := cl0Op5) rfl (fun K hK => ?_) AllReadyH.nil
  rw [if_pos (by rfl)]
  refine wp_load_row 32 _ rfl b1 (by kernel_rfl) 32 _ (0, 0) _ Bb1 Try.underlying32 rfl (size_fe _) ?_
  have hS' := hS
  refine hK.out _ _ hS' (fun _ => ?_)
  exact wpAnyH_at (by kernel_rfl) (by kernel_rfl) (cl0_18 C w hS' Bb1 Bb2)
end
set_option maxRecDepth 100000 in
set_option maxHeartbeats 2000000 in
theorem cl0_region (Q : Exit → Act → World → Prop) (hQ : ∀ c a w n v, Q (.panic c) (a.put (some n) v) w → Q (.panic c) a w) (u : World) (z5 z6 z7 z8 z9 z10 z11 z12 z13 : Value) (zz : List Value) (b1 b2 b3 b4 : Nat) (bit : Bool) (a b c d : Nat) (hb1 : Blk u b1 (arr 4 (limb c)) 32) (hb2 : Blk u b2 (arr 4 (limb a)) 32) (hb3 : Blk u b3 (arr 4 (limb d)) 32) (nb3 : b3 ∉ ([b1, b2] : List Nat)) (hb4 : Blk u b4 (arr 4 (limb b)) 32) (nb4 : b4 ∉ ([b1, b2] : List Nat)) (eb1b2 : b1 ≠ b2) (H : ∀ (w : World), Kp [b1, b2] u w → Blk w b1 (arr 4 (limb (cond bit a c))) 32 → Blk w b2 (arr 4 (limb (cond bit c a))) 32 → Q .normal { tmps := List.toArray ((.bool bit) :: (.pointer (some ⟨b1, 0, none⟩)) :: (.pointer (some ⟨b2, 0, none⟩)) :: (.pointer (some ⟨b3, 0, none⟩)) :: (.pointer (some ⟨b4, 0, none⟩)) :: z5 :: (.agg (arr 4 (limb c))) :: (.agg (arr 4 (limb a))) :: (.bool bit) :: (.agg (arr 4 (limb (cond bit c a)))) :: (.agg (arr 4 (limb a))) :: (.agg (arr 4 (limb c))) :: (.bool bit) :: (.agg (arr 4 (limb (cond bit a c)))) :: zz), defers := [] } w) :
    (Code.region 0 cl0Ops true).wp Try.prog Q { tmps := List.toArray ((.bool bit) :: (.pointer (some ⟨b1, 0, none⟩)) :: (.pointer (some ⟨b2, 0, none⟩)) :: (.pointer (some ⟨b3, 0, none⟩)) :: (.pointer (some ⟨b4, 0, none⟩)) :: z5 :: z6 :: z7 :: z8 :: z9 :: z10 :: z11 :: z12 :: z13 :: zz), defers := [] } u := by
  have C : cl0C Q u z5 z6 z7 z8 z9 z10 z11 z12 z13 zz b1 b2 b3 b4 bit a b c d := ⟨hQ, hb1, hb2, hb3, nb3, hb4, nb4, eb1b2, H⟩
  refine wp_region_held_drew (S := (Kp [b1, b2] u)) (by kernel_rfl) (Kp.drew _ u) (fun hS' => ?_)
  refine wpAnyH_take (i := 2) (oi := cl0Op2) (v := .bool bit) rfl (by kernel_rfl) (by kernel_rfl) (by kernel_rfl) (fun _ _ _ => hQ _ _ _ _ _) (Or.inl ⟨by kernel_rfl, fun _ _ => by kernel_rfl⟩) hS' ?_
  refine wpAnyH_take (i := 6) (oi := cl0Op6) (v := .bool bit) rfl (by kernel_rfl) (by kernel_rfl) (by kernel_rfl) (fun _ _ _ => hQ _ _ _ _ _) (Or.inl ⟨by kernel_rfl, fun _ _ => by kernel_rfl⟩) hS' ?_
  exact wpAnyH_at (by kernel_rfl) (by kernel_rfl) (cl0_22 C u.drew hS' hb1.drew hb2.drew)
def cl1Op0 : Oper := { dst := some 14, op := Op.load 32 (Operand.tmp 3), type := 32, pos := "ladder.go:17", after := #[], guard := none }
def cl1Op1 : Oper := { dst := some 15, op := Op.load 32 (Operand.tmp 4), type := 32, pos := "ladder.go:17", after := #[], guard := none }
def cl1Op2 : Oper := { dst := some 16, op := Op.move (Operand.tmp 0), type := 4, pos := "ladder.go:17", after := #[], guard := none }
def cl1Op3 : Oper := { dst := some 17, op := Op.call { callee := Callee.value (Operand.func 19), args := #[Operand.tmp 14, Operand.tmp 15, Operand.tmp 16], argTypes := #[32, 32, 4] }, type := 32, pos := "ladder.go:17", after := #[{ on := 0, ground := Ground.data }, { on := 1, ground := Ground.data }, { on := 2, ground := Ground.data }], guard := none }
def cl1Op4 : Oper := { dst := some 18, op := Op.load 32 (Operand.tmp 4), type := 32, pos := "ladder.go:17", after := #[], guard := none }
def cl1Op5 : Oper := { dst := some 19, op := Op.load 32 (Operand.tmp 3), type := 32, pos := "ladder.go:17", after := #[], guard := none }
def cl1Op6 : Oper := { dst := some 20, op := Op.move (Operand.tmp 0), type := 4, pos := "ladder.go:17", after := #[], guard := none }
def cl1Op7 : Oper := { dst := some 21, op := Op.call { callee := Callee.value (Operand.func 19), args := #[Operand.tmp 18, Operand.tmp 19, Operand.tmp 20], argTypes := #[32, 32, 4] }, type := 32, pos := "ladder.go:17", after := #[{ on := 4, ground := Ground.data }, { on := 5, ground := Ground.data }, { on := 6, ground := Ground.data }, { on := 3, ground := Ground.chain }], guard := none }
def cl1Op8 : Oper := { dst := none, op := Op.store 32 (Operand.tmp 4) (Operand.tmp 17), type := 0, pos := "ladder.go:17", after := #[{ on := 3, ground := Ground.data }, { on := 7, ground := Ground.chain }, { on := 0, ground := Ground.phase }, { on := 1, ground := Ground.phase }, { on := 2, ground := Ground.phase }, { on := 3, ground := Ground.phase }, { on := 4, ground := Ground.phase }, { on := 5, ground := Ground.textOnly Departure.inlinedCapture }, { on := 6, ground := Ground.textOnly Departure.lateStores }, { on := 7, ground := Ground.textOnly Departure.lateStoresUnsure }], guard := none }
def cl1Op9 : Oper := { dst := none, op := Op.store 32 (Operand.tmp 3) (Operand.tmp 21), type := 0, pos := "ladder.go:17", after := #[{ on := 7, ground := Ground.data }, { on := 8, ground := Ground.chain }, { on := 0, ground := Ground.phase }, { on := 1, ground := Ground.phase }, { on := 2, ground := Ground.phase }, { on := 3, ground := Ground.phase }, { on := 4, ground := Ground.phase }, { on := 5, ground := Ground.phase }, { on := 6, ground := Ground.phase }, { on := 7, ground := Ground.phase }, { on := 8, ground := Ground.phase }], guard := none }
def cl1Ops : Array Oper := #[cl1Op0, cl1Op1, cl1Op2, cl1Op3, cl1Op4, cl1Op5, cl1Op6, cl1Op7, cl1Op8, cl1Op9]
structure cl1C (Q : Exit → Act → World → Prop) (u : World) (z5 z6 z7 z8 z9 z10 z11 z12 z13 z14 z15 z16 z17 z18 z19 z20 z21 : Value) (b1 b2 b3 b4 : Nat) (bit : Bool) (a b c d : Nat) : Prop where
  hQ : ∀ c a w n v, Q (.panic c) (a.put (some n) v) w → Q (.panic c) a w
  hb1 : Blk u b1 (arr 4 (limb c)) 32
  nb1 : b1 ∉ ([b3, b4] : List Nat)
  hb2 : Blk u b2 (arr 4 (limb a)) 32
  nb2 : b2 ∉ ([b3, b4] : List Nat)
  hb3 : Blk u b3 (arr 4 (limb d)) 32
  hb4 : Blk u b4 (arr 4 (limb b)) 32
  eb3b4 : b3 ≠ b4
  H : ∀ (w : World), Kp [b3, b4] u w → Blk w b3 (arr 4 (limb (cond bit b d))) 32 → Blk w b4 (arr 4 (limb (cond bit d b))) 32 → Q .normal { tmps := List.toArray ((.bool bit) :: (.pointer (some ⟨b1, 0, none⟩)) :: (.pointer (some ⟨b2, 0, none⟩)) :: (.pointer (some ⟨b3, 0, none⟩)) :: (.pointer (some ⟨b4, 0, none⟩)) :: z5 :: z6 :: z7 :: z8 :: z9 :: z10 :: z11 :: z12 :: z13 :: (.agg (arr 4 (limb d))) :: (.agg (arr 4 (limb b))) :: (.bool bit) :: (.agg (arr 4 (limb (cond bit d b)))) :: (.agg (arr 4 (limb b))) :: (.agg (arr 4 (limb d))) :: (.bool bit) :: (.agg (arr 4 (limb (cond bit b d)))) :: []), defers := [] } w
section
variable {Q : Exit → Act → World → Prop} {u : World} {z5 z6 z7 z8 z9 z10 z11 z12 z13 z14 z15 z16 z17 z18 z19 z20 z21 : Value} {b1 b2 b3 b4 : Nat} {bit : Bool} {a b c d : Nat}
set_option maxRecDepth 100000 in
set_option maxHeartbeats 2000000 in
theorem cl1_0 (C : cl1C Q u z5 z6 z7 z8 z9 z10 z11 z12 z13 z14 z15 z16 z17 z18 z19 z20 z21 b1 b2 b3 b4 bit a b c d) (w : World) (hS : Kp [b3, b4] u w) (Bb3 : Blk w b3 (arr 4 (limb (cond bit b d))) 32) (Bb4 : Blk w b4 (arr 4 (limb (cond bit d b))) 32) :
    wpAnyH Try.prog .any cl1Ops Q (Kp [b3, b4] u) 0 (List.toArray (true :: true :: true :: true :: true :: true :: true :: true :: true :: true :: [])) { tmps := List.toArray ((.bool bit) :: (.pointer (some ⟨b1, 0, none⟩)) :: (.pointer (some ⟨b2, 0, none⟩)) :: (.pointer (some ⟨b3, 0, none⟩)) :: (.pointer (some ⟨b4, 0, none⟩)) :: z5 :: z6 :: z7 :: z8 :: z9 :: z10 :: z11 :: z12 :: z13 :: (.agg (arr 4 (limb d))) :: (.agg (arr 4 (limb b))) :: (.bool bit) :: (.agg (arr 4 (limb (cond bit d b)))) :: (.agg (arr 4 (limb b))) :: (.agg (arr 4 (limb d))) :: (.bool bit) :: (.agg (arr 4 (limb (cond bit b d)))) :: []), defers := [] } w := by
  exact wpAnyH_done (by kernel_rfl) (C.H  w hS Bb3 Bb4) _
set_option maxRecDepth 100000 in
set_option maxHeartbeats 2000000 in
theorem cl1_1 (C : cl1C Q u z5 z6 z7 z8 z9 z10 z11 z12 z13 z14 z15 z16 z17 z18 z19 z20 z21 b1 b2 b3 b4 bit a b c d) (w : World) (hS : Kp [b3, b4] u w) (Bb3 : Blk w b3 (arr 4 (limb d)) 32) (Bb4 : Blk w b4 (arr 4 (limb (cond bit d b))) 32) :
    wpAnyH Try.prog .any cl1Ops Q (Kp [b3, b4] u) 1 (List.toArray (true :: true :: true :: true :: true :: true :: true :: true :: true :: false :: [])) { tmps := List.toArray ((.bool bit) :: (.pointer (some ⟨b1, 0, none⟩)) :: (.pointer (some ⟨b2, 0, none⟩)) :: (.pointer (some ⟨b3, 0, none⟩)) :: (.pointer (some ⟨b4, 0, none⟩)) :: z5 :: z6 :: z7 :: z8 :: z9 :: z10 :: z11 :: z12 :: z13 :: (.agg (arr 4 (limb d))) :: (.agg (arr 4 (limb b))) :: (.bool bit) :: (.agg (arr 4 (limb (cond bit d b)))) :: (.agg (arr 4 (limb b))) :: (.agg (arr 4 (limb d))) :: (.bool bit) :: (.agg (arr 4 (limb (cond bit b d)))) :: []), defers := [] } w := by
  obtain ⟨hQ, hb1, nb1, hb2, nb2, hb3, hb4, eb3b4, _⟩ := id C
  refine wpAnyH_ready (rs := [9]) (by kernel_rfl) (by simp) ?_
  refine AllReadyH.cons (o := cl1Op9) rfl (fun K hK => ?_) AllReadyH.nil
  rw [if_pos (by rfl)]
  refine wp_store_row 32 _ _ rfl b3 (arr 4 (limb (cond bit b d))) (by kernel_rfl) (by kernel_rfl) 32 _ Bb3 (size_fe _) (by rw [arr_size, arr_size]) (one_fe _) ?_
  have hS' := hS.old (x := b3) (by simp) (arr 4 (limb (cond bit b d)))
  refine hK.out _ _ hS' (fun _ => ?_)
  exact wpAnyH_at (by kernel_rfl) (by kernel_rfl) (cl1_0 C (w.setRow b3 (arr 4 (limb (cond bit b d)))) hS' (Bb3.row (arr 4 (limb (cond bit b d)))) (Bb4.rowOther (arr 4 (limb (cond bit b d))) eb3b4))
set_option maxRecDepth 100000 in
set_option maxHeartbeats 2000000 in
theorem cl1_2 (C : cl1C Q u z5 z6 z7 z8 z9 z10 z11 z12 z13 z14 z15 z16 z17 z18 z19 z20 z21 b1 b2 b3 b4 bit a b c d) (w : World) (hS : Kp [b3, b4] u w) (Bb3 : Blk w b3 (arr 4 (limb d)) 32) (Bb4 : Blk w b4 (arr 4 (limb b)) 32) :
    wpAnyH Try.prog .any cl1Ops Q (Kp [b3, b4] u) 2 (List.toArray (true :: true :: true :: true :: true :: true :: true :: true :: false :: false :: [])) { tmps := List.toArray ((.bool bit) :: (.pointer (some ⟨b1, 0, none⟩)) :: (.pointer (some ⟨b2, 0, none⟩)) :: (.pointer (some ⟨b3, 0, none⟩)) :: (.pointer (some ⟨b4, 0, none⟩)) :: z5 :: z6 :: z7 :: z8 :: z9 :: z10 :: z11 :: z12 :: z13 :: (.agg (arr 4 (limb d))) :: (.agg (arr 4 (limb b))) :: (.bool bit) :: (.agg (arr 4 (limb (cond bit d b)))) :: (.agg (arr 4 (limb b))) :: (.agg (arr 4 (limb d))) :: (.bool bit) :: (.agg (arr 4 (limb (cond bit b d)))) :: []), defers := [] } w := by
  obtain ⟨hQ, hb1, nb1, hb2, nb2, hb3, hb4, eb3b4, _⟩ := id C
  refine wpAnyH_ready (rs := [8]) (by kernel_rfl) (by simp) ?_
  refine AllReadyH.cons (o := cl1Op8) rfl (fun K hK => ?_) AllReadyH.nil
  rw [if_pos (by rfl)]
  refine wp_store_row 32 _ _ rfl b4 (arr 4 (limb (cond bit d b))) (by kernel_rfl) (by kernel_rfl) 32 _ Bb4 (size_fe _) (by rw [arr_size, arr_size]) (one_fe _) ?_
  have hS' := hS.old (x := b4) (by simp) (arr 4 (limb (cond bit d b)))
  refine hK.out _ _ hS' (fun _ => ?_)
  exact wpAnyH_at (by kernel_rfl) (by kernel_rfl) (cl1_1 C (w.setRow b4 (arr 4 (limb (cond bit d b)))) hS' (Bb3.rowOther (arr 4 (limb (cond bit d b))) (Ne.symm eb3b4)) (Bb4.row (arr 4 (limb (cond bit d b)))))
set_option maxRecDepth 100000 in
set_option maxHeartbeats 2000000 in
theorem cl1_3 (C : cl1C Q u z5 z6 z7 z8 z9 z10 z11 z12 z13 z14 z15 z16 z17 z18 z19 z20 z21 b1 b2 b3 b4 bit a b c d) (w : World) (hS : Kp [b3, b4] u w) (Bb3 : Blk w b3 (arr 4 (limb d)) 32) (Bb4 : Blk w b4 (arr 4 (limb b)) 32) :
    wpAnyH Try.prog .any cl1Ops Q (Kp [b3, b4] u) 3 (List.toArray (true :: true :: true :: true :: true :: true :: true :: false :: false :: false :: [])) { tmps := List.toArray ((.bool bit) :: (.pointer (some ⟨b1, 0, none⟩)) :: (.pointer (some ⟨b2, 0, none⟩)) :: (.pointer (some ⟨b3, 0, none⟩)) :: (.pointer (some ⟨b4, 0, none⟩)) :: z5 :: z6 :: z7 :: z8 :: z9 :: z10 :: z11 :: z12 :: z13 :: (.agg (arr 4 (limb d))) :: (.agg (arr 4 (limb b))) :: (.bool bit) :: (.agg (arr 4 (limb (cond bit d b)))) :: (.agg (arr 4 (limb b))) :: (.agg (arr 4 (limb d))) :: (.bool bit) :: z21 :: []), defers := [] } w := by
  obtain ⟨hQ, hb1, nb1, hb2, nb2, hb3, hb4, eb3b4, _⟩ := id C
  refine wpAnyH_ready (rs := [7]) (by kernel_rfl) (by simp) ?_
  refine AllReadyH.cons (o := cl1Op7) rfl (fun K hK => ?_) AllReadyH.nil
  rw [if_pos (by rfl)]
  refine wp_call_val 19 #[.agg (arr 4 (limb b)), .agg (arr 4 (limb d)), .bool bit] (by kernel_rfl) (.agg (arr 4 (limb (cond bit b d)))) (pick_c b d bit _) ?_
  intro w' hbw
  have hS' := hS.call hbw
  refine hK.out _ _ hS' (fun _ => ?_)
  exact wpAnyH_at (by kernel_rfl) (by kernel_rfl) (cl1_2 C w' hS' (Bb3.call hbw) (Bb4.call hbw))
set_option maxRecDepth 100000 in
set_option maxHeartbeats 2000000 in
theorem cl1_4 (C : cl1C Q u z5 z6 z7 z8 z9 z10 z11 z12 z13 z14 z15 z16 z17 z18 z19 z20 z21 b1 b2 b3 b4 bit a b c d) (w : World) (hS : Kp [b3, b4] u w) (Bb3 : Blk w b3 (arr 4 (limb d)) 32) (Bb4 : Blk w b4 (arr 4 (limb b)) 32) :
    wpAnyH Try.prog .any cl1Ops Q (Kp [b3, b4] u) 4 (List.toArray (true :: true :: true :: false :: true :: true :: true :: false :: false :: false :: [])) { tmps := List.toArray ((.bool bit) :: (.pointer (some ⟨b1, 0, none⟩)) :: (.pointer (some ⟨b2, 0, none⟩)) :: (.pointer (some ⟨b3, 0, none⟩)) :: (.pointer (some ⟨b4, 0, none⟩)) :: z5 :: z6 :: z7 :: z8 :: z9 :: z10 :: z11 :: z12 :: z13 :: (.agg (arr 4 (limb d))) :: (.agg (arr 4 (limb b))) :: (.bool bit) :: z17 :: (.agg (arr 4 (limb b))) :: (.agg (arr 4 (limb d))) :: (.bool bit) :: z21 :: []), defers := [] } w := by
  obtain ⟨hQ, hb1, nb1, hb2, nb2, hb3, hb4, eb3b4, _⟩ := id C
  refine wpAnyH_ready (rs := [3]) (by kernel_rfl) (by simp) ?_
  refine AllReadyH.cons (o := cl1Op3) rfl (fun K hK => ?_) AllReadyH.nil
  rw [if_pos (by rfl)]
  refine wp_call_val 19 #[.agg (arr 4 (limb d)), .agg (arr 4 (limb b)), .bool bit] (by kernel_rfl) (.agg (arr 4 (limb (cond bit d b)))) (pick_c d b bit _) ?_
  intro w' hbw
  have hS' := hS.call hbw
  refine hK.out _ _ hS' (fun _ => ?_)
  exact wpAnyH_at (by kernel_rfl) (by kernel_rfl) (cl1_3 C w' hS' (Bb3.call hbw) (Bb4.call hbw))
set_option maxRecDepth 100000 in
set_option maxHeartbeats 2000000 in
theorem cl1_5 (C : cl1C Q u z5 z6 z7 z8 z9 z10 z11 z12 z13 z14 z15 z16 z17 z18 z19 z20 z21 b1 b2 b3 b4 bit a b c d) (w : World) (hS : Kp [b3, b4] u w) (Bb3 : Blk w b3 (arr 4 (limb d)) 32) (Bb4 : Blk w b4 (arr 4 (limb b)) 32) :
    wpAnyH Try.prog .any cl1Ops Q (Kp [b3, b4] u) 4 (List.toArray (true :: true :: true :: true :: false :: true :: true :: false :: false :: false :: [])) { tmps := List.toArray ((.bool bit) :: (.pointer (some ⟨b1, 0, none⟩)) :: (.pointer (some ⟨b2, 0, none⟩)) :: (.pointer (some ⟨b3, 0, none⟩)) :: (.pointer (some ⟨b4, 0, none⟩)) :: z5 :: z6 :: z7 :: z8 :: z9 :: z10 :: z11 :: z12 :: z13 :: (.agg (arr 4 (limb d))) :: (.agg (arr 4 (limb b))) :: (.bool bit) :: (.agg (arr 4 (limb (cond bit d b)))) :: z18 :: (.agg (arr 4 (limb d))) :: (.bool bit) :: z21 :: []), defers := [] } w := by
  obtain ⟨hQ, hb1, nb1, hb2, nb2, hb3, hb4, eb3b4, _⟩ := id C
  refine wpAnyH_ready (rs := [4]) (by kernel_rfl) (by simp) ?_
  refine AllReadyH.cons (o := cl1Op4) rfl (fun K hK => ?_) AllReadyH.nil
  rw [if_pos (by rfl)]
  refine wp_load_row 32 _ rfl b4 (by kernel_rfl) 32 _ (0, 0) _ Bb4 Try.underlying32 rfl (size_fe _) ?_
  have hS' := hS
  refine hK.out _ _ hS' (fun _ => ?_)
  exact wpAnyH_at (by kernel_rfl) (by kernel_rfl) (cl1_3 C w hS' Bb3 Bb4)
set_option maxRecDepth 100000 in
set_option maxHeartbeats 2000000 in
theorem cl1_6 (C : cl1C Q u z5 z6 z7 z8 z9 z10 z11 z12 z13 z14 z15 z16 z17 z18 z19 z20 z21 b1 b2 b3 b4 bit a b c d) (w : World) (hS : Kp [b3, b4] u w) (Bb3 : Blk w b3 (arr 4 (limb d)) 32) (Bb4 : Blk w b4 (arr 4 (limb b)) 32) :
    wpAnyH Try.prog .any cl1Ops Q (Kp [b3, b4] u) 4 (List.toArray (true :: true :: true :: true :: true :: false :: true :: false :: false :: false :: [])) { tmps := List.toArray ((.bool bit) :: (.pointer (some ⟨b1, 0, none⟩)) :: (.pointer (some ⟨b2, 0, none⟩)) :: (.pointer (some ⟨b3, 0, none⟩)) :: (.pointer (some ⟨b4, 0, none⟩)) :: z5 :: z6 :: z7 :: z8 :: z9 :: z10 :: z11 :: z12 :: z13 :: (.agg (arr 4 (limb d))) :: (.agg (arr 4 (limb b))) :: (.bool bit) :: (.agg (arr 4 (limb (cond bit d b)))) :: (.agg (arr 4 (limb b))) :: z19 :: (.bool bit) :: z21 :: []), defers := [] } w := by
  obtain ⟨hQ, hb1, nb1, hb2, nb2, hb3, hb4, eb3b4, _⟩ := id C
  refine wpAnyH_ready (rs := [5]) (by kernel_rfl) (by simp) ?_
  refine AllReadyH.cons (o := cl1Op5) rfl (fun K hK => ?_) AllReadyH.nil
  rw [if_pos (by rfl)]
  refine wp_load_row 32 _ rfl b3 (by kernel_rfl) 32 _ (0, 0) _ Bb3 Try.underlying32 rfl (size_fe _) ?_
  have hS' := hS
  refine hK.out _ _ hS' (fun _ => ?_)
  exact wpAnyH_at (by kernel_rfl) (by kernel_rfl) (cl1_3 C w hS' Bb3 Bb4)
set_option maxRecDepth 100000 in
set_option maxHeartbeats 2000000 in
theorem cl1_7 (C : cl1C Q u z5 z6 z7 z8 z9 z10 z11 z12 z13 z14 z15 z16 z17 z18 z19 z20 z21 b1 b2 b3 b4 bit a b c d) (w : World) (hS : Kp [b3, b4] u w) (Bb3 : Blk w b3 (arr 4 (limb d)) 32) (Bb4 : Blk w b4 (arr 4 (limb b)) 32) :
    wpAnyH Try.prog .any cl1Ops Q (Kp [b3, b4] u) 5 (List.toArray (false :: true :: true :: false :: true :: true :: true :: false :: false :: false :: [])) { tmps := List.toArray ((.bool bit) :: (.pointer (some ⟨b1, 0, none⟩)) :: (.pointer (some ⟨b2, 0, none⟩)) :: (.pointer (some ⟨b3, 0, none⟩)) :: (.pointer (some ⟨b4, 0, none⟩)) :: z5 :: z6 :: z7 :: z8 :: z9 :: z10 :: z11 :: z12 :: z13 :: z14 :: (.agg (arr 4 (limb b))) :: (.bool bit) :: z17 :: (.agg (arr 4 (limb b))) :: (.agg (arr 4 (limb d))) :: (.bool bit) :: z21 :: []), defers := [] } w := by
  obtain ⟨hQ, hb1, nb1, hb2, nb2, hb3, hb4, eb3b4, _⟩ := id C
  refine wpAnyH_ready (rs := [0]) (by kernel_rfl) (by simp) ?_
  refine AllReadyH.cons (o := cl1Op0) rfl (fun K hK => ?_) AllReadyH.nil
  rw [if_pos (by rfl)]
  refine wp_load_row 32 _ rfl b3 (by kernel_rfl) 32 _ (0, 0) _ Bb3 Try.underlying32 rfl (size_fe _) ?_
  have hS' := hS
  refine hK.out _ _ hS' (fun _ => ?_)
  exact wpAnyH_at (by kernel_rfl) (by kernel_rfl) (cl1_4 C w hS' Bb3 Bb4)
set_option maxRecDepth 100000 in
set_option maxHeartbeats 2000000 in
theorem cl1_8 (C : cl1C Q u z5 z6 z7 z8 z9 z10 z11 z12 z13 z14 z15 z16 z17 z18 z19 z20 z21 b1 b2 b3 b4 bit a b c d) (w : World) (hS : Kp [b3, b4] u w) (Bb3 : Blk w b3 (arr 4 (limb d)) 32) (Bb4 : Blk w b4 (arr 4 (limb b)) 32) :
    wpAnyH Try.prog .any cl1Ops Q (Kp [b3, b4] u) 5 (List.toArray (true :: false :: true :: false :: true :: true :: true :: false :: false :: false :: [])) { tmps := List.toArray ((.bool bit) :: (.pointer (some ⟨b1, 0, none⟩)) :: (.pointer (some ⟨b2, 0, none⟩)) :: (.pointer (some ⟨b3, 0, none⟩)) :: (.pointer (some ⟨b4, 0, none⟩)) :: z5 :: z6 :: z7 :: z8 :: z9 :: z10 :: z11 :: z12 :: z13 :: (.agg (arr 4 (limb d))) :: z15 :: (.bool bit) :: z17 :: (.agg (arr 4 (limb b))) :: (.agg (arr 4 (limb d))) :: (.bool bit) :: z21 :: []), defers := [] } w := by
  obtain ⟨hQ, hb1, nb1, hb2, nb2, hb3, hb4, eb3b4, _⟩ := id C
  refine wpAnyH_ready (rs := [1]) (by kernel_rfl) (by simp) ?_
  refine AllReadyH.cons (o := cl1Op1) rfl (fun K hK => ?_) AllReadyH.nil
  rw [if_pos (by rfl)]
  refine wp_load_row 32 _ rfl b4 (by kernel_rfl) 32 _ (0, 0) _ Bb4 Try.underlying32 rfl (size_fe _) ?_
  have hS' := hS
  refine hK.out _ _ hS' (fun _ => ?_)
  exact wpAnyH_at (by kernel_rfl) (by kernel_rfl) (cl1_4 C w hS' Bb3 Bb4)
set_option maxRecDepth 100000 in
set_option maxHeartbeats 2000000 in
theorem cl1_9 (C : cl1C Q u z5 z6 z7 z8 z9 z10 z11 z12 z13 z14 z15 z16 z17 z18 z19 z20 z21 b1 b2 b3 b4 bit a b c d) (w : World) (hS : Kp [b3, b4] u w) (Bb3 : Blk w b3 (arr 4 (limb d)) 32) (Bb4 : Blk w b4 (arr 4 (limb b)) 32) :
    wpAnyH Try.prog .any cl1Ops Q (Kp [b3, b4] u) 5 (List.toArray (true :: true :: true :: false :: false :: true :: true :: false :: false :: false :: [])) { tmps := List.toArray ((.bool bit) :: (.pointer (some ⟨b1, 0, none⟩)) :: (.pointer (some ⟨b2, 0, none⟩)) :: (.pointer (some ⟨b3, 0, none⟩)) :: (.pointer (some ⟨b4, 0, none⟩)) :: z5 :: z6 :: z7 :: z8 :: z9 :: z10 :: z11 :: z12 :: z13 :: (.agg (arr 4 (limb d))) :: (.agg (arr 4 (limb b))) :: (.bool bit) :: z17 :: z18 :: (.agg (arr 4 (limb d))) :: (.bool bit) :: z21 :: []), defers := [] } w := by
  obtain ⟨hQ, hb1, nb1, hb2, nb2, hb3, hb4, eb3b4, _⟩ := id C
  refine wpAnyH_ready (rs := [3, 4]) (by kernel_rfl) (by simp) ?_
  refine AllReadyH.cons (o := cl1Op3) rfl (fun K hK => ?_) ?_
  · skip
    rw [if_pos (by rfl)]
    refine wp_call_val 19 #[.agg (arr 4 (limb d)), .agg (arr 4 (limb b)), .bool bit] (by kernel_rfl) (.agg (arr 4 (limb (cond bit d b)))) (pick_c d b bit _) ?_
    intro w' hbw
    have hS' := hS.call hbw
    refine hK.out _ _ hS' (fun _ => ?_)
    exact wpAnyH_at (by kernel_rfl) (by kernel_rfl) (cl1_5 C w' hS' (Bb3.call hbw) (Bb4.call hbw))
  refine AllReadyH.cons (o := cl1Op4) rfl (fun K hK => ?_) AllReadyH.nil
  rw [if_pos (by rfl)]
  refine wp_load_row 32 _ rfl b4 (by kernel_rfl) 32 _ (0, 0) _ Bb4 Try.underlying32 rfl (size_fe _) ?_
  have hS' := hS
  refine hK.out _ _ hS' (fun _ => ?_)
  exact wpAnyH_at (by kernel_rfl) (by kernel_rfl) (cl1_4 C w hS' Bb3 Bb4)
set_option maxRecDepth 100000 in
set_option maxHeartbeats 2000000 in
theorem cl1_10 (C : cl1C Q u z5 z6 z7 z8 z9 z10 z11 z12 z13 z14 z15 z16 z17 z18 z19 z20 z21 b1 b2 b3 b4 bit a b c d) (w : World) (hS : Kp [b3, b4] u w) (Bb3 : Blk w b3 (arr 4 (limb d)) 32) (Bb4 : Blk w b4 (arr 4 (limb b)) 32) :
    wpAnyH Try.prog .any cl1Ops Q (Kp [b3, b4] u) 5 (List.toArray (true :: true :: true :: false :: true :: false :: true :: false :: false :: false :: [])) { tmps := List.toArray ((.bool bit) :: (.pointer (some ⟨b1, 0, none⟩)) :: (.pointer (some ⟨b2, 0, none⟩)) :: (.pointer (some ⟨b3, 0, none⟩)) :: (.pointer (some ⟨b4, 0, none⟩)) :: z5 :: z6 :: z7 :: z8 :: z9 :: z10 :: z11 :: z12 :: z13 :: (.agg (arr 4 (limb d))) :: (.agg (arr 4 (limb b))) :: (.bool bit) :: z17 :: (.agg (arr 4 (limb b))) :: z19 :: (.bool bit) :: z21 :: []), defers := [] } w := by
  obtain ⟨hQ, hb1, nb1, hb2, nb2, hb3, hb4, eb3b4, _⟩ := id C
  refine wpAnyH_ready (rs := [3, 5]) (by kernel_rfl) (by simp) ?_
  refine AllReadyH.cons (o := cl1Op3) rfl (fun K hK => ?_) ?_
  · skip
    rw [if_pos (by rfl)]
    refine wp_call_val 19 #[.agg (arr 4 (limb d)), .agg (arr 4 (limb b)), .bool bit] (by kernel_rfl) (.agg (arr 4 (limb (cond bit d b)))) (pick_c d b bit _) ?_
    intro w' hbw
    have hS' := hS.call hbw
    refine hK.out _ _ hS' (fun _ => ?_)
    exact wpAnyH_at (by kernel_rfl) (by kernel_rfl) (cl1_6 C w' hS' (Bb3.call hbw) (Bb4.call hbw))
  refine AllReadyH.cons (o := cl1Op5) rfl (fun K hK => ?_) AllReadyH.nil
  rw [if_pos (by rfl)]
  refine wp_load_row 32 _ rfl b3 (by kernel_rfl) 32 _ (0, 0) _ Bb3 Try.underlying32 rfl (size_fe _) ?_
  have hS' := hS
  refine hK.out _ _ hS' (fun _ => ?_)
  exact wpAnyH_at (by kernel_rfl) (by kernel_rfl) (cl1_4 C w hS' Bb3 Bb4)
set_option maxRecDepth 100000 in
set_option maxHeartbeats 2000000 in
theorem cl1_11 (C : cl1C Q u z5 z6 z7 z8 z9 z10 z11 z12 z13 z14 z15 z16 z17 z18 z19 z20 z21 b1 b2 b3 b4 bit a b c d) (w : World) (hS : Kp [b3, b4] u w) (Bb3 : Blk w b3 (arr 4 (limb d)) 32) (Bb4 : Blk w b4 (arr 4 (limb b)) 32) :
    wpAnyH Try.prog .any cl1Ops Q (Kp [b3, b4] u) 5 (List.toArray (true :: true :: true :: true :: false :: false :: true :: false :: false :: false :: [])) { tmps := List.toArray ((.bool bit) :: (.pointer (some ⟨b1, 0, none⟩)) :: (.pointer (some ⟨b2, 0, none⟩)) :: (.pointer (some ⟨b3, 0, none⟩)) :: (.pointer (some ⟨b4, 0, none⟩)) :: z5 :: z6 :: z7 :: z8 :: z9 :: z10 :: z11 :: z12 :: z13 :: (.agg (arr 4 (limb d))) :: (.agg (arr 4 (limb b))) :: (.bool bit) :: (.agg (arr 4 (limb (cond bit d b)))) :: z18 :: z19 :: (.bool bit) :: z21 :: []), defers := [] } w := by
  obtain ⟨hQ, hb1, nb1, hb2, nb2, hb3, hb4, eb3b4, _⟩ := id C
  refine wpAnyH_ready (rs := [4, 5]) (by kernel_rfl) (by simp) ?_
  refine AllReadyH.cons (o := cl1Op4) rfl (fun K hK => ?_) ?_
  · skip
    rw [if_pos (by rfl)]
    refine wp_load_row 32 _ rfl b4 (by kernel_rfl) 32 _ (0, 0) _ Bb4 Try.underlying32 rfl (size_fe _) ?_
    have hS' := hS
    refine hK.out _ _ hS' (fun _ => ?_)
    exact wpAnyH_at (by kernel_rfl) (by kernel_rfl) (cl1_6 C w hS' Bb3 Bb4)
  refine AllReadyH.cons (o := cl1Op5) rfl (fun K hK => ?_) AllReadyH.nil
  rw [if_pos (by rfl)]
  refine wp_load_row 32 _ rfl b3 (by kernel_rfl) 32 _ (0, 0) _ Bb3 Try.underlying32 rfl (size_fe _) ?_
  have hS' := hS
  refine hK.out _ _ hS' (fun _ => ?_)
  exact wpAnyH_at (by kernel_rfl) (by kernel_rfl) (cl1_5 C w hS' Bb3 Bb4)
set_option maxRecDepth 100000 in
set_option maxHeartbeats 2000000 in
theorem cl1_12 (C : cl1C Q u z5 z6 z7 z8 z9 z10 z11 z12 z13 z14 z15 z16 z17 z18 z19 z20 z21 b1 b2 b3 b4 bit a b c d) (w : World) (hS : Kp [b3, b4] u w) (Bb3 : Blk w b3 (arr 4 (limb d)) 32) (Bb4 : Blk w b4 (arr 4 (limb b)) 32) :
    wpAnyH Try.prog .any cl1Ops Q (Kp [b3, b4] u) 6 (List.toArray (false :: false :: true :: false :: true :: true :: true :: false :: false :: false :: [])) { tmps := List.toArray ((.bool bit) :: (.pointer (some ⟨b1, 0, none⟩)) :: (.pointer (some ⟨b2, 0, none⟩)) :: (.pointer (some ⟨b3, 0, none⟩)) :: (.pointer (some ⟨b4, 0, none⟩)) :: z5 :: z6 :: z7 :: z8 :: z9 :: z10 :: z11 :: z12 :: z13 :: z14 :: z15 :: (.bool bit) :: z17 :: (.agg (arr 4 (limb b))) :: (.agg (arr 4 (limb d))) :: (.bool bit) :: z21 :: []), defers := [] } w := by
  obtain ⟨hQ, hb1, nb1, hb2, nb2, hb3, hb4, eb3b4, _⟩ := id C
  refine wpAnyH_ready (rs := [0, 1]) (by kernel_rfl) (by simp) ?_
  refine AllReadyH.cons (o := cl1Op0) rfl (fun K hK => ?_) ?_
  · skip
    rw [if_pos (by rfl)]
    refine wp_load_row 32 _ rfl b3 (by kernel_rfl) 32 _ (0, 0) _ Bb3 Try.underlying32 rfl (size_fe _) ?_
    have hS' := hS
    refine hK.out _ _ hS' (fun _ => ?_)
    exact wpAnyH_at (by kernel_rfl) (by kernel_rfl) (cl1_8 C w hS' Bb3 Bb4)
  refine AllReadyH.cons (o := cl1Op1) rfl (fun K hK => ?_) AllReadyH.nil
  rw [if_pos (by rfl)]
  refine wp_load_row 32 _ rfl b4 (by kernel_rfl) 32 _ (0, 0) _ Bb4 Try.underlying32 rfl (size_fe _) ?_
  have hS' := hS
  refine hK.out _ _ hS' (fun _ => ?_)
  exact wpAnyH_at (by kernel_rfl) (by kernel_rfl) (cl1_7 C w hS' Bb3 Bb4)
set_option maxRecDepth 100000 in
set_option maxHeartbeats 2000000 in
theorem cl1_13 (C : cl1C Q u z5 z6 z7 z8 z9 z10 z11 z12 z13 z14 z15 z16 z17 z18 z19 z20 z21 b1 b2 b3 b4 bit a b c d) (w : World) (hS : Kp [b3, b4] u w) (Bb3 : Blk w b3 (arr 4 (limb d)) 32) (Bb4 : Blk w b4 (arr 4 (limb b)) 32) :
    wpAnyH Try.prog .any cl1Ops Q (Kp [b3, b4] u) 6 (List.toArray (false :: true :: true :: false :: false :: true :: true :: false :: false :: false :: [])) { tmps := List.toArray ((.bool bit) :: (.pointer (some ⟨b1, 0, none⟩)) :: (.pointer (some ⟨b2, 0, none⟩)) :: (.pointer (some ⟨b3, 0, none⟩)) :: (.pointer (some ⟨b4, 0, none⟩)) :: z5 :: z6 :: z7 :: z8 :: z9 :: z10 :: z11 :: z12 :: z13 :: z14 :: (.agg (arr 4 (limb b))) :: (.bool bit) :: z17 :: z18 :: (.agg (arr 4 (limb d))) :: (.bool bit) :: z21 :: []), defers := [] } w := by
  obtain ⟨hQ, hb1, nb1, hb2, nb2, hb3, hb4, eb3b4, _⟩ := id C
  refine wpAnyH_ready (rs := [0, 4]) (by kernel_rfl) (by simp) ?_
  refine AllReadyH.cons (o := cl1Op0) rfl (fun K hK => ?_) ?_
  · skip
    rw [if_pos (by rfl)]
    refine wp_load_row 32 _ rfl b3 (by kernel_rfl) 32 _ (0, 0) _ Bb3 Try.underlying32 rfl (size_fe _) ?_
    have hS' := hS
    refine hK.out _ _ hS' (fun _ => ?_)
    exact wpAnyH_at (by kernel_rfl) (by kernel_rfl) (cl1_9 C w hS' Bb3 Bb4)
  refine AllReadyH.cons (o := cl1Op4) rfl (fun K hK => ?_) AllReadyH.nil
  rw [if_pos (by rfl)]
  refine wp_load_row 32 _ rfl b4 (by kernel_rfl) 32 _ (0, 0) _ Bb4 Try.underlying32 rfl (size_fe _) ?_
  have hS' := hS
  refine hK.out _ _ hS' (fun _ => ?_)
  exact wpAnyH_at (by kernel_rfl) (by kernel_rfl) (cl1_7 C w hS' Bb3 Bb4)
set_option maxRecDepth 100000 in
set_option maxHeartbeats 2000000 in
theorem cl1_14 (C : cl1C Q u z5 z6 z7 z8 z9 z10 z11 z12 z13 z14 z15 z16 z17 z18 z19 z20 z21 b1 b2 b3 b4 bit a b c d) (w : World) (hS : Kp [b3, b4] u w) (Bb3 : Blk w b3 (arr 4 (limb d)) 32) (Bb4 : Blk w b4 (arr 4 (limb b)) 32) :
    wpAnyH Try.prog .any cl1Ops Q (Kp [b3, b4] u) 6 (List.toArray (true :: false :: true :: false :: false :: true :: true :: false :: false :: false :: [])) { tmps := List.toArray ((.bool bit) :: (.pointer (some ⟨b1, 0, none⟩)) :: (.pointer (some ⟨b2, 0, none⟩)) :: (.pointer (some ⟨b3, 0, none⟩)) :: (.pointer (some ⟨b4, 0, none⟩)) :: z5 :: z6 :: z7 :: z8 :: z9 :: z10 :: z11 :: z12 :: z13 :: (.agg (arr 4 (limb d))) :: z15 :: (.bool bit) :: z17 :: z18 :: (.agg (arr 4 (limb d))) :: (.bool bit) :: z21 :: []), defers := [] } w := by
  obtain ⟨hQ, hb1, nb1, hb2, nb2, hb3, hb4, eb3b4, _⟩ := id C
  refine wpAnyH_ready (rs := [1, 4]) (by kernel_rfl) (by simp) ?_
  refine AllReadyH.cons (o := cl1Op1) rfl (fun K hK => ?_) ?_
  · skip
    rw [if_pos (by rfl)]
    refine wp_load_row 32 _ rfl b4 (by kernel_rfl) 32 _ (0, 0) _ Bb4 Try.underlying32 rfl (size_fe _) ?_
    have hS' := hS
    refine hK.out _ _ hS' (fun _ => ?_)
    exact wpAnyH_at (by kernel_rfl) (by kernel_rfl) (cl1_9 C w hS' Bb3 Bb4)
  refine AllReadyH.cons (o := cl1Op4) rfl (fun K hK => ?_) AllReadyH.nil
  rw [if_pos (by rfl)]
  refine wp_load_row 32 _ rfl b4 (by kernel_rfl) 32 _ (0, 0) _ Bb4 Try.underlying32 rfl (size_fe _) ?_
  have hS' := hS
  refine hK.out _ _ hS' (fun _ => ?_)
  exact wpAnyH_at (by kernel_rfl) (by kernel_rfl) (cl1_8 C w hS' Bb3 Bb4)
set_option maxRecDepth 100000 in
set_option maxHeartbeats 2000000 in
theorem cl1_15 (C : cl1C Q u z5 z6 z7 z8 z9 z10 z11 z12 z13 z14 z15 z16 z17 z18 z19 z20 z21 b1 b2 b3 b4 bit a b c d) (w : World) (hS : Kp [b3, b4] u w) (Bb3 : Blk w b3 (arr 4 (limb d)) 32) (Bb4 : Blk w b4 (arr 4 (limb b)) 32) :
    wpAnyH Try.prog .any cl1Ops Q (Kp [b3, b4] u) 6 (List.toArray (false :: true :: true :: false :: true :: false :: true :: false :: false :: false :: [])) { tmps := List.toArray ((.bool bit) :: (.pointer (some ⟨b1, 0, none⟩)) :: (.pointer (some ⟨b2, 0, none⟩)) :: (.pointer (some ⟨b3, 0, none⟩)) :: (.pointer (some ⟨b4, 0, none⟩)) :: z5 :: z6 :: z7 :: z8 :: z9 :: z10 :: z11 :: z12 :: z13 :: z14 :: (.agg (arr 4 (limb b))) :: (.bool bit) :: z17 :: (.agg (arr 4 (limb b))) :: z19 :: (.bool bit) :: z21 :: []), defers := [] } w := by
  obtain ⟨hQ, hb1, nb1, hb2, nb2, hb3, hb4, eb3b4, _⟩ := id C
  refine wpAnyH_ready (rs := [0, 5]) (by kernel_rfl) (by simp) ?_
  refine AllReadyH.cons (o := cl1Op0) rfl (fun K hK => ?_) ?_
  · skip
    rw [if_pos (by rfl)]
    refine wp_load_row 32 _ rfl b3 (by kernel_rfl) 32 _ (0, 0) _ Bb3 Try.underlying32 rfl (size_fe _) ?_
    have hS' := hS
    refine hK.out _ _ hS' (fun _ => ?_)
    exact wpAnyH_at (by kernel_rfl) (by kernel_rfl) (cl1_10 C w hS' Bb3 Bb4)
  refine AllReadyH.cons (o := cl1Op5) rfl (fun K hK => ?_) AllReadyH.nil
  rw [if_pos (by rfl)]
  refine wp_load_row 32 _ rfl b3 (by kernel_rfl) 32 _ (0, 0) _ Bb3 Try.underlying32 rfl (size_fe _) ?_
  have hS' := hS
  refine hK.out _ _ hS' (fun _ => ?_)
  exact wpAnyH_at (by kernel_rfl) (by kernel_rfl) (cl1_7 C w hS' Bb3 Bb4)
set_option maxRecDepth 100000 in
set_option maxHeartbeats 2000000 in
theorem cl1_16 (C : cl1C Q u z5 z6 z7 z8 z9 z10 z11 z12 z13 z14 z15 z16 z17 z18 z19 z20 z21 b1 b2 b3 b4 bit a b c d) (w : World) (hS : Kp [b3, b4] u w) (Bb3 : Blk w b3 (arr 4 (limb d)) 32) (Bb4 : Blk w b4 (arr 4 (limb b)) 32) :
    wpAnyH Try.prog .any cl1Ops Q (Kp [b3, b4] u) 6 (List.toArray (true :: false :: true :: false :: true :: false :: true :: false :: false :: false :: [])) { tmps := List.toArray ((.bool bit) :: (.pointer (some ⟨b1, 0, none⟩)) :: (.pointer (some ⟨b2, 0, none⟩)) :: (.pointer (some ⟨b3, 0, none⟩)) :: (.pointer (some ⟨b4, 0, none⟩)) :: z5 :: z6 :: z7 :: z8 :: z9 :: z10 :: z11 :: z12 :: z13 :: (.agg (arr 4 (limb d))) :: z15 :: (.bool bit) :: z17 :: (.agg (arr 4 (limb b))) :: z19 :: (.bool bit) :: z21 :: []), defers := [] } w := by
  obtain ⟨hQ, hb1, nb1, hb2, nb2, hb3, hb4, eb3b4, _⟩ := id C
  refine wpAnyH_ready (rs := [1, 5]) (by kernel_rfl) (by simp) ?_
  refine AllReadyH.cons (o := cl1Op1) rfl (fun K hK => ?_) ?_
  · skip
    rw [if_pos (by rfl)]
    refine wp_load_row 32 _ rfl b4 (by kernel_rfl) 32 _ (0, 0) _ Bb4 Try.underlying32 rfl (size_fe _) ?_
    have hS' := hS
    refine hK.out _ _ hS' (fun _ => ?_)
    exact wpAnyH_at (by kernel_rfl) (by kernel_rfl) (cl1_10 C w hS' Bb3 Bb4)
  refine AllReadyH.cons (o := cl1Op5) rfl (fun K hK => ?_) AllReadyH.nil
  rw [if_pos (by rfl)]
  refine wp_load_row 32 _ rfl b3 (by kernel_rfl) 32 _ (0, 0) _ Bb3 Try.underlying32 rfl (size_fe _) ?_
  have hS' := hS
  refine hK.out _ _ hS' (fun _ => ?_)
  exact wpAnyH_at (by kernel_rfl) (by kernel_rfl) (cl1_8 C w hS' Bb3 Bb4)
set_option maxRecDepth 100000 in
set_option maxHeartbeats 2000000 in
theorem cl1_17 (C : cl1C Q u z5 z6 z7 z8 z9 z10 z11 z12 z13 z14 z15 z16 z17 z18 z19 z20 z21 b1 b2 b3 b4 bit a b c d) (w : World) (hS : Kp [b3, b4] u w) (Bb3 : Blk w b3 (arr 4 (limb d)) 32) (Bb4 : Blk w b4 (arr 4 (limb b)) 32) :
    wpAnyH Try.prog .any cl1Ops Q (Kp [b3, b4] u) 6 (List.toArray (true :: true :: true :: false :: false :: false :: true :: false :: false :: false :: [])) { tmps := List.toArray ((.bool bit) :: (.pointer (some ⟨b1, 0, none⟩)) :: (.pointer (some ⟨b2, 0, none⟩)) :: (.pointer (some ⟨b3, 0, none⟩)) :: (.pointer (some ⟨b4, 0, none⟩)) :: z5 :: z6 :: z7 :: z8 :: z9 :: z10 :: z11 :: z12 :: z13 :: (.agg (arr 4 (limb d))) :: (.agg (arr 4 (limb b))) :: (.bool bit) :: z17 :: z18 :: z19 :: (.bool bit) :: z21 :: []), defers := [] } w := by
  obtain ⟨hQ, hb1, nb1, hb2, nb2, hb3, hb4, eb3b4, _⟩ := id C
  refine wpAnyH_ready (rs := [3, 4, 5]) (by kernel_rfl) (by simp) ?_
  refine AllReadyH.cons (o := cl1Op3) rfl (fun K hK => ?_) ?_
  · skip
    rw [if_pos (by rfl)]
    refine wp_call_val 19 #[.agg (arr 4 (limb d)), .agg (arr 4 (limb b)), .bool bit] (by kernel_rfl) (.agg (arr 4 (limb (cond bit d b)))) (pick_c d b bit _) ?_
    intro w' hbw
    have hS' := hS.call hbw
    refine hK.out _ _ hS' (fun _ => ?_)
    exact wpAnyH_at (by kernel_rfl) (by kernel_rfl) (cl1_11 C w' hS' (Bb3.call hbw) (Bb4.call hbw))
  refine AllReadyH.cons (o := cl1Op4) rfl (fun K hK => ?_) ?_
  · skip
    rw [if_pos (by rfl)]
    refine wp_load_row 32 _ rfl b4 (by kernel_rfl) 32 _ (0, 0) _ Bb4 Try.underlying32 rfl (size_fe _) ?_
    have hS' := hS
    refine hK.out _ _ hS' (fun _ => ?_)
    exact wpAnyH_at (by kernel_rfl) (by kernel_rfl) (cl1_10 C w hS' Bb3 Bb4)
  refine AllReadyH.cons (o := cl1Op5) rfl (fun K hK => ?_) AllReadyH.nil
  rw [if_pos (by rfl)]
  refine wp_load_row 32 _ rfl b3 (by kernel_rfl) 32 _ (0, 0) _ Bb3 Try.underlying32 rfl (size_fe _) ?_
  have hS' := hS
  refine hK.out _ _ hS' (fun _ => ?_)
  exact wpAnyH_at (by kernel_rfl) (by kernel_rfl) (cl1_9 C w hS' Bb3 Bb4)
set_option maxRecDepth 100000 in
set_option maxHeartbeats 2000000 in
theorem cl1_18 (C : cl1C Q u z5 z6 z7 z8 z9 z10 z11 z12 z13 z14 z15 z16 z17 z18 z19 z20 z21 b1 b2 b3 b4 bit a b c d) (w : World) (hS : Kp [b3, b4] u w) (Bb3 : Blk w b3 (arr 4 (limb d)) 32) (Bb4 : Blk w b4 (arr 4 (limb b)) 32) :
    wpAnyH Try.prog .any cl1Ops Q (Kp [b3, b4] u) 7 (List.toArray (false :: false :: true :: false :: false :: true :: true :: false :: false :: false :: [])) { tmps := List.toArray ((.bool bit) :: (.pointer (some ⟨b1, 0, none⟩)) :: (.pointer (some ⟨b2, 0, none⟩)) :: (.pointer (some ⟨b3, 0, none⟩)) :: (.pointer (some ⟨b4, 0, none⟩)) :: z5 :: z6 :: z7 :: z8 :: z9 :: z10 :: z11 :: z12 :: z13 :: z14 :: z15 :: (.bool bit) :: z17 :: z18 :: (.agg (arr 4 (limb d))) :: (.bool bit) :: z21 :: []), defers := [] } w := by
  obtain ⟨hQ, hb1, nb1, hb2, nb2, hb3, hb4, eb3b4, _⟩ := id C
  refine wpAnyH_ready (rs := [0, 1, 4]) (by kernel_rfl) (by simp) ?_
  refine AllReadyH.cons (o := cl1Op0) rfl (fun K hK => ?_) ?_
  · skip
    rw [if_pos (by rfl)]
    refine wp_load_row 32 _ rfl b3 (by kernel_rfl) 32 _ (0, 0) _ Bb3 Try.underlying32 rfl (size_fe _) ?_
    have hS' := hS
    refine hK.out _ _ hS' (fun _ => ?_)
    exact wpAnyH_at (by kernel_rfl) (by kernel_rfl) (cl1_14 C w hS' Bb3 Bb4)
  refine AllReadyH.cons (o := cl1Op1) rfl (fun K hK => ?_) ?_
  · skip
    rw [if_pos (by rfl)]
    refine wp_load_row 32 _ rfl b4 (by kernel_rfl) 32 _ (0, 0) _ Bb4 Try.underlying32 rfl (size_fe _) ?_
    have hS' := hS
    refine hK.out _ _ hS' (fun _ => ?_)
    exact wpAnyH_at (by kernel_rfl) (by kernel_rfl) (cl1_13 C w hS' Bb3 Bb4)
  refine AllReadyH.cons (o := cl1Op4) rfl (fun K hK => ?_) AllReadyH.nil
  rw [if_pos (by rfl)]
  refine wp_load_row 32 _ rfl b4 (by kernel_rfl) 32 _ (0, 0) _ Bb4 Try.underlying32 rfl (size_fe _) ?_
  have hS' := hS
  refine hK.out _ _ hS' (fun _ => ?_)
  exact wpAnyH_at (by kernel_rfl) (by kernel_rfl) (cl1_12 C w hS' Bb3 Bb4)
set_option maxRecDepth 100000 in
set_option maxHeartbeats 2000000 in
theorem cl1_19 (C : cl1C Q u z5 z6 z7 z8 z9 z10 z11 z12 z13 z14 z15 z16 z17 z18 z19 z20 z21 b1 b2 b3 b4 bit a b c d) (w : World) (hS : Kp [b3, b4] u w) (Bb3 : Blk w b3 (arr 4 (limb d)) 32) (Bb4 : Blk w b4 (arr 4 (limb b)) 32) :
    wpAnyH Try.prog .any cl1Ops Q (Kp [b3, b4] u) 7 (List.toArray (false :: false :: true :: false :: true :: false :: true :: false :: false :: false :: [])) { tmps := List.toArray ((.bool bit) :: (.pointer (some ⟨b1, 0, none⟩)) :: (.pointer (some ⟨b2, 0, none⟩)) :: (.pointer (some ⟨b3, 0, none⟩)) :: (.pointer (some ⟨b4, 0, none⟩)) :: z5 :: z6 :: z7 :: z8 :: z9 :: z10 :: z11 :: z12 :: z13 :: z14 :: z15 :: (.bool bit) :: z17 :: (.agg (arr 4 (limb b))) :: z19 :: (.bool bit) :: z21 :: []), defers := [] } w := by
  obtain ⟨hQ, hb1, nb1, hb2, nb2, hb3, hb4, eb3b4, _⟩ := id C
  refine wpAnyH_ready (rs := [0, 1, 5]) (by kernel_rfl) (by simp) ?_
  refine AllReadyH.cons (o := cl1Op0) rfl (fun K hK => ?_) ?_
  · skip
    rw [if_pos (by rfl)]
    refine wp_load_row 32 _ rfl b3 (by kernel_rfl) 32 _ (0, 0) _ Bb3 Try.underlying32 rfl (size_fe _) ?_
    have hS' := hS
    refine hK.out _ _ hS' (fun _ => ?_)
    exact wpAnyH_at (by kernel_rfl) (by kernel_rfl) (cl1_16 C w hS' Bb3 Bb4)
  refine AllReadyH.cons (o := cl1Op1) rfl (fun K hK => ?_) ?_
  · skip
    rw [if_pos (by rfl)]
    refine wp_load_row 32 _ rfl b4 (by kernel_rfl) 32 _ (0, 0) _ Bb4 Try.underlying32 rfl (size_fe _) ?_
    have hS' := hS
    refine hK.out _ _ hS' (fun _ => ?_)
    exact wpAnyH_at (by kernel_rfl) (by kernel_rfl) (cl1_15 C w hS' Bb3 Bb4)
  refine AllReadyH.cons (o := cl1Op5) rfl (fun K hK => ?_) AllReadyH.nil
  rw [if_pos (by rfl)]
  refine wp_load_row 32 _ rfl b3 (by kernel_rfl) 32 _ (0, 0) _ Bb3 Try.underlying32 rfl (size_fe _) ?_
  have hS' := hS
  refine hK.out _ _ hS' (fun _ => ?_)
  exact wpAnyH_at (by kernel_rfl) (by kernel_rfl) (cl1_12 C w hS' Bb3 Bb4)
set_option maxRecDepth 100000 in
set_option maxHeartbeats 2000000 in
theorem cl1_20 (C : cl1C Q u z5 z6 z7 z8 z9 z10 z11 z12 z13 z14 z15 z16 z17 z18 z19 z20 z21 b1 b2 b3 b4 bit a b c d) (w : World) (hS : Kp [b3, b4] u w) (Bb3 : Blk w b3 (arr 4 (limb d)) 32) (Bb4 : Blk w b4 (arr 4 (limb b)) 32) :
    wpAnyH Try.prog .any cl1Ops Q (Kp [b3, b4] u) 7 (List.toArray (false :: true :: true :: false :: false :: false :: true :: false :: false :: false :: [])) { tmps := List.toArray ((.bool bit) :: (.pointer (some ⟨b1, 0, none⟩)) :: (.pointer (some ⟨b2, 0, none⟩)) :: (.pointer (some ⟨b3, 0, none⟩)) :: (.pointer (some ⟨b4, 0, none⟩)) :: z5 :: z6 :: z7 :: z8 :: z9 :: z10 :: z11 :: z12 :: z13 :: z14 :: (.agg (arr 4 (limb b))) :: (.bool bit) :: z17 :: z18 :: z19 :: (.bool bit) :: z21 :: []), defers := [] } w := by
  obtain ⟨hQ, hb1, nb1, hb2, nb2, hb3, hb4, eb3b4, _⟩ := id C
  refine wpAnyH_ready (rs := [0, 4, 5]) (by kernel_rfl) (by simp) ?_
  refine AllReadyH.cons (o := cl1Op0) rfl (fun K hK => ?_) ?_
  · skip
    rw [if_pos (by rfl)]
    refine wp_load_row 32 _ rfl b3 (by kernel_rfl) 32 _ (0, 0) _ Bb3 Try.underlying32 rfl (size_fe _) ?_
    have hS' := hS
    refine hK.out _ _ hS' (fun _ => ?_)
    exact wpAnyH_at (by kernel_rfl) (by kernel_rfl) (cl1_17 C w hS' Bb3 Bb4)
  refine AllReadyH.cons (o := cl1Op4) rfl (fun K hK => ?_) ?_
  · skip
    rw [if_pos (by rfl)]
    refine wp_load_row 32 _ rfl b4 (by kernel_rfl) 32 _ (0, 0) _ Bb4 Try.underlying32 rfl (size_fe _) ?_
    have hS' := hS
    refine hK.out _ _ hS' (fun _ => ?_)
    exact wpAnyH_at (by kernel_rfl) (by kernel_rfl) (cl1_15 C w hS' Bb3 Bb4)
  refine AllReadyH.cons (o := cl1Op5) rfl (fun K hK => ?_) AllReadyH.nil
  rw [if_pos (by rfl)]
  refine wp_load_row 32 _ rfl b3 (by kernel_rfl) 32 _ (0, 0) _ Bb3 Try.underlying32 rfl (size_fe _) ?_
  have hS' := hS
  refine hK.out _ _ hS' (fun _ => ?_)
  exact wpAnyH_at (by kernel_rfl) (by kernel_rfl) (cl1_13 C w hS' Bb3 Bb4)
set_option maxRecDepth 100000 in
set_option maxHeartbeats 2000000 in
theorem cl1_21 (C : cl1C Q u z5 z6 z7 z8 z9 z10 z11 z12 z13 z14 z15 z16 z17 z18 z19 z20 z21 b1 b2 b3 b4 bit a b c d) (w : World) (hS : Kp [b3, b4] u w) (Bb3 : Blk w b3 (arr 4 (limb d)) 32) (Bb4 : Blk w b4 (arr 4 (limb b)) 32) :
    wpAnyH Try.prog .any cl1Ops Q (Kp [b3, b4] u) 7 (List.toArray (true :: false :: true :: false :: false :: false :: true :: false :: false :: false :: [])) { tmps := List.toArray ((.bool bit) :: (.pointer (some ⟨b1, 0, none⟩)) :: (.pointer (some ⟨b2, 0, none⟩)) :: (.pointer (some ⟨b3, 0, none⟩)) :: (.pointer (some ⟨b4, 0, none⟩)) :: z5 :: z6 :: z7 :: z8 :: z9 :: z10 :: z11 :: z12 :: z13 :: (.agg (arr 4 (limb d))) :: z15 :: (.bool bit) :: z17 :: z18 :: z19 :: (.bool bit) :: z21 :: []), defers := [] } w := by
  obtain ⟨hQ, hb1, nb1, hb2, nb2, hb3, hb4, eb3b4, _⟩ := id C
  refine wpAnyH_ready (rs := [1, 4, 5]) (by kernel_rfl) (by simp) ?_
  refine AllReadyH.cons (o := cl1Op1) rfl (fun K hK => ?_) ?_
  · skip
    rw [if_pos (by rfl)]
    refine wp_load_row 32 _ rfl b4 (by kernel_rfl) 32 _ (0, 0) _ Bb4 Try.underlying32 rfl (size_fe _) ?_
    have hS' := hS
    refine hK.out _ _ hS' (fun _ => ?_)
    exact wpAnyH_at (by kernel_rfl) (by kernel_rfl) (cl1_17 C w hS' Bb3 Bb4)
  refine AllReadyH.cons (o := cl1Op4) rfl (fun K hK => ?_) ?_
  · skip
    rw [if_pos (by rfl)]
    refine wp_load_row 32 _ rfl b4 (by kernel_rfl) 32 _ (0, 0) _ Bb4 Try.underlying32 rfl (size_fe _) ?_
    have hS' := hS
    refine hK.out _ _ hS' (fun _ => ?_)
    exact wpAnyH_at (by kernel_rfl) (by kernel_rfl) (cl1_16 C w hS' Bb3 Bb4)
  refine AllReadyH.cons (o := cl1Op5) rfl (fun K hK => ?_) AllReadyH.nil
  rw [if_pos (by rfl)]
  refine wp_load_row 32 _ rfl b3 (by kernel_rfl) 32 _ (0, 0) _ Bb3 Try.underlying32 rfl (size_fe _) ?_
  have hS' := hS
  refine hK.out _ _ hS' (fun _ => ?_)
  exact wpAnyH_at (by kernel_rfl) (by kernel_rfl) (cl1_14 C w hS' Bb3 Bb4)
set_option maxRecDepth 100000 in
set_option maxHeartbeats 2000000 in
theorem cl1_22 (C : cl1C Q u z5 z6 z7 z8 z9 z10 z11 z12 z13 z14 z15 z16 z17 z18 z19 z20 z21 b1 b2 b3 b4 bit a b c d) (w : World) (hS : Kp [b3, b4] u w) (Bb3 : Blk w b3 (arr 4 (limb d)) 32) (Bb4 : Blk w b4 (arr 4 (limb b)) 32) :
    wpAnyH Try.prog .any cl1Ops Q (Kp [b3, b4] u) 8 (List.toArray (false :: false :: true :: false :: false :: false :: true :: false :: false :: false :: [])) { tmps := List.toArray ((.bool bit) :: (.pointer (some ⟨b1, 0, none⟩)) :: (.pointer (some ⟨b2, 0, none⟩)) :: (.pointer (some ⟨b3, 0, none⟩)) :: (.pointer (some ⟨b4, 0, none⟩)) :: z5 :: z6 :: z7 :: z8 :: z9 :: z10 :: z11 :: z12 :: z13 :: z14 :: z15 :: (.bool bit) :: z17 :: z18 :: z19 :: (.bool bit) :: z21 :: []), defers := [] } w := by
  obtain ⟨hQ, hb1, nb1, hb2, nb2, hb3, hb4, eb3b4, _⟩ := id C
  refine wpAnyH_ready (rs := [0, 1, 4, 5]) (by kernel_rfl) (by simp) ?_
  refine AllReadyH.cons (o := cl1Op0) rfl (fun K hK => ?_) ?_
  · skip
    rw [if_pos (by rfl)]
    refine wp_load_row 32 _ rfl b3 (by kernel_rfl) 32 _ (0, 0) _ Bb3 Try.underlying32 rfl (size_fe _) ?_
    have hS' := hS
    refine hK.out _ _ hS' (fun _ => ?_)
    exact wpAnyH_at (by kernel_rfl) (by kernel_rfl) (cl1_21 C w hS' Bb3 Bb4)
  refine AllReadyH.cons (o := cl1Op1) rfl (fun K hK => ?_) ?_
  · skip
    rw [if_pos (by rfl)]
    refine wp_load_row 32 _ rfl b4 (by kernel_rfl) 32 _ (0, 0) _ Bb4 Try.underlying32 rfl (size_fe _) ?_
    have hS' := hS
    refine hK.out _ _ hS' (fun _ => ?_)
    exact wpAnyH_at (by kernel_rfl) (by kernel_rfl) (cl1_20 C w hS' Bb3 Bb4)
  refine AllReadyH.cons (o := cl1Op4) rfl (fun K hK => ?_) ?_
  · skip
    rw [if_pos (by rfl)]
    refine wp_load_row 32 _ rfl b4 (by kernel_rfl) 32 _ (0, 0) _ Bb4 Try.underlying32 rfl (size_fe _) ?_
    have hS' := hS
    refine hK.out _ _ hS' (fun _ => ?_)
    exact wpAnyH_at (by kernel_rfl) (by kernel_rfl) (cl1_19 C w hS' Bb3 Bb4)
  refine AllReadyH.cons (o := cl1Op5) rfl (fun K hK => ?_) AllReadyH.nil
  rw [if_pos (by rfl)]
  refine wp_load_row 32 _ rfl b3 (by kernel_rfl) 32 _ (0, 0) _ Bb3 Try.underlying32 rfl (size_fe _) ?_
  have hS' := hS
  refine hK.out _ _ hS' (fun _ => ?_)
  exact wpAnyH_at (by kernel_rfl) (by kernel_rfl) (cl1_18 C w hS' Bb3 Bb4)
end
set_option maxRecDepth 100000 in
set_option maxHeartbeats 2000000 in
theorem cl1_region (Q : Exit → Act → World → Prop) (hQ : ∀ c a w n v, Q (.panic c) (a.put (some n) v) w → Q (.panic c) a w) (u : World) (z5 z6 z7 z8 z9 z10 z11 z12 z13 z14 z15 z16 z17 z18 z19 z20 z21 : Value) (b1 b2 b3 b4 : Nat) (bit : Bool) (a b c d : Nat) (hb1 : Blk u b1 (arr 4 (limb c)) 32) (nb1 : b1 ∉ ([b3, b4] : List Nat)) (hb2 : Blk u b2 (arr 4 (limb a)) 32) (nb2 : b2 ∉ ([b3, b4] : List Nat)) (hb3 : Blk u b3 (arr 4 (limb d)) 32) (hb4 : Blk u b4 (arr 4 (limb b)) 32) (eb3b4 : b3 ≠ b4) (H : ∀ (w : World), Kp [b3, b4] u w → Blk w b3 (arr 4 (limb (cond bit b d))) 32 → Blk w b4 (arr 4 (limb (cond bit d b))) 32 → Q .normal { tmps := List.toArray ((.bool bit) :: (.pointer (some ⟨b1, 0, none⟩)) :: (.pointer (some ⟨b2, 0, none⟩)) :: (.pointer (some ⟨b3, 0, none⟩)) :: (.pointer (some ⟨b4, 0, none⟩)) :: z5 :: z6 :: z7 :: z8 :: z9 :: z10 :: z11 :: z12 :: z13 :: (.agg (arr 4 (limb d))) :: (.agg (arr 4 (limb b))) :: (.bool bit) :: (.agg (arr 4 (limb (cond bit d b)))) :: (.agg (arr 4 (limb b))) :: (.agg (arr 4 (limb d))) :: (.bool bit) :: (.agg (arr 4 (limb (cond bit b d)))) :: []), defers := [] } w) :
    (Code.region 1 cl1Ops true).wp Try.prog Q { tmps := List.toArray ((.bool bit) :: (.pointer (some ⟨b1, 0, none⟩)) :: (.pointer (some ⟨b2, 0, none⟩)) :: (.pointer (some ⟨b3, 0, none⟩)) :: (.pointer (some ⟨b4, 0, none⟩)) :: z5 :: z6 :: z7 :: z8 :: z9 :: z10 :: z11 :: z12 :: z13 :: z14 :: z15 :: z16 :: z17 :: z18 :: z19 :: z20 :: z21 :: []), defers := [] } u := by
  have C : cl1C Q u z5 z6 z7 z8 z9 z10 z11 z12 z13 z14 z15 z16 z17 z18 z19 z20 z21 b1 b2 b3 b4 bit a b c d := ⟨hQ, hb1, nb1, hb2, nb2, hb3, hb4, eb3b4, H⟩
  refine wp_region_held_drew (S := (Kp [b3, b4] u)) (by kernel_rfl) (Kp.drew _ u) (fun hS' => ?_)
  refine wpAnyH_take (i := 2) (oi := cl1Op2) (v := .bool bit) rfl (by kernel_rfl) (by kernel_rfl) (by kernel_rfl) (fun _ _ _ => hQ _ _ _ _ _) (Or.inl ⟨by kernel_rfl, fun _ _ => by kernel_rfl⟩) hS' ?_
  refine wpAnyH_take (i := 6) (oi := cl1Op6) (v := .bool bit) rfl (by kernel_rfl) (by kernel_rfl) (by kernel_rfl) (fun _ _ _ => hQ _ _ _ _ _) (Or.inl ⟨by kernel_rfl, fun _ _ => by kernel_rfl⟩) hS' ?_
  exact wpAnyH_at (by kernel_rfl) (by kernel_rfl) (cl1_22 C u.drew hS' hb3.drew hb4.drew)
set_option maxRecDepth 100000 in
set_option maxHeartbeats 1000000 in
theorem change_c (bit : Bool) (a b c d b1 b2 b3 b4 : Nat) (w : World) (h1 : Blk w b1 (arr 4 (limb c)) 32) (h2 : Blk w b2 (arr 4 (limb a)) 32) (h3 : Blk w b3 (arr 4 (limb d)) 32) (h4 : Blk w b4 (arr 4 (limb b)) 32) (e12 : b1 ≠ b2) (e34 : b3 ≠ b4) (e31 : b3 ≠ b1) (e32 : b3 ≠ b2) (e41 : b4 ≠ b1) (e42 : b4 ≠ b2) :
    Calls Try.prog 18 #[.bool bit, .pointer (some ⟨b1, 0, none⟩), .pointer (some ⟨b2, 0, none⟩), .pointer (some ⟨b3, 0, none⟩), .pointer (some ⟨b4, 0, none⟩)] w fun e w' => e = .returned (.tuple #[]) ∧ (Kp [b1, b2, b3, b4] w w' ∧ Blk w' b1 (arr 4 (limb (cond bit a c))) 32 ∧ Blk w' b2 (arr 4 (limb (cond bit c a))) 32 ∧ Blk w' b3 (arr 4 (limb (cond bit b d))) 32 ∧ Blk w' b4 (arr 4 (limb (cond bit d b))) 32) := by
  go_enter Try.func18, Try.ntmps18
  go_upto_region 0 with (fail)
  refine cl0_region _ (fun _ _ _ _ _ h => h) w _ _ _ _ _ _ _ _ _ _ b1 b2 b3 b4 bit a b c d h1 h2 h3 (not_two e31 e32) h4 (not_two e41 e42) e12 ?_
  intro w1 hK C1 C2
  have C3 := hK.keep _ _ _ (not_two e31 e32) h3
  have C4 := hK.keep _ _ _ (not_two e41 e42) h4
  go_upto_region 1 with (fail)
  refine cl1_region _ (fun _ _ _ _ _ h => h) w1 _ _ _ _ _ _ _ _ _ _ _ _ _ _ _ _ _ b1 b2 b3 b4 bit (cond bit c a) b (cond bit a c) d C1 (not_two (Ne.symm e31) (Ne.symm e41)) C2 (not_two (Ne.symm e32) (Ne.symm e42)) C3 C4 e34 ?_
  intro w2 hK2 D3 D4
  have D1 := hK2.keep _ _ _ (not_two (Ne.symm e31) (Ne.symm e41)) C1
  have D2 := hK2.keep _ _ _ (not_two (Ne.symm e32) (Ne.symm e42)) C2
  have hk := hK.trans hK2 (Z := [b1, b2, b3, b4]) (by intro x hx; simp at hx ⊢; omega) (by intro x hx; simp at hx ⊢; omega)
  go_wp2_with fail
  refine bodyPost_end (v := .tuple #[]) (by simp [results, Try.results18]) rfl ⟨rfl, hk, D1, D2, D3, D4⟩
end Go.Proofs.Ytidhffaphbiapaa

/- Slices of own rows, slices that are written out, closures; sixty-four bytes. No conditions but those that each names. -/
import Derived.Test.YtbpmakegimgbpaaGreatDoorGi
import Derived.Test.YtbpmakegimgbpaaGreatDoorTh
import Derived.Test.YtbpmakegimgbpaaGreatDoorSg
namespace Go.Proofs.YtbpmakegimgbpaaGreatDoor
set_option maxRecDepth 100000
open F Go.RowKit

section
variable {o : Oper} {a : Act} {u w : World} {L : List Row} {Q : Exit → Act → World → Prop} {ops : Array Oper} {rest : List Oper} {K M : Act → World → Prop} {S : World → Prop}
/-- A call that makes a closure over a row of its own. -/
def CallsNew (f : FuncId) (args : Array Value) (g : FuncId) (w : World) (c : Array Value) (t : TypeId) : Prop :=
  Calls Tryz.prog f args w fun e w' => e = .returned (.func (.func g) #[] #[.pointer (some ⟨w.heap.size, 0, none⟩)]) ∧ Blk w' w.heap.size c t ∧ Below w.heap.size w w'
theorem o_bs (hO : Own u w L) (n : Nat) (c : Array Value) (t : TypeId) (hrun : ∀ w, (execOp a.eval o).run Tryz.prog w = .ok (.value (.slice (some ⟨w.heap.size, 0, none⟩) n n)) (w.alloc (.cells c t)))
    (h : ∀ q w', Below w.heap.size w w' → Blk w' q c t → Own u w' L → K (a.put o.dst (.slice (some ⟨q, 0, none⟩) n n)) w') : o.wp Tryz.prog a w K Q := by
  have hb := (Below.refl w.heap.size w).alloc (Nat.le_refl _) (.cells c t)
  unfold Oper.wp
  rw [hrun w, Oper.upon_value]
  exact h _ _ hb (Blk.new w c t) (hO.call hb)
theorem o_cw (hO : Own u w L) (f : FuncId) (args : Array Value) (hrun : (execOp a.eval o).run Tryz.prog w = .ok (.enter f args) w) (v : Value) (hc : Ret f args w v)
    (h : ∀ w', Below w.heap.size w w' → Own u w' L → K (a.put o.dst v) w') : o.wp Tryz.prog a w K Q := by
  unfold Oper.wp
  rw [hrun, Oper.upon_enter]
  refine hc.mono fun e w' hh => ?_
  obtain ⟨rfl, hb⟩ := hh
  exact h w' hb (hO.call hb)
theorem l_cw (hO : Own u w L) (f : FuncId) (args : Array Value) (v : Value) (hc : Ret f args w v) (h : ∀ w', Below w.heap.size w w' → Own u w' L → wpList Tryz.prog ops Q rest (a.put o.dst v) w')
    (hrun : (execOp a.eval o).run Tryz.prog w = .ok (.enter f args) w := by kernel_rfl) (hg : Region.wanted o (yielded ops a.tmps) = true := by kernel_rfl) : wpList Tryz.prog ops Q (o :: rest) a w :=
  l_any hg fun _ hK => o_cw hO f args hrun v hc fun w' h1 h2 => hK _ _ (h w' h1 h2)
theorem kb_bs (hK : ∀ a w, S w → M a w → K a w) (hO : Own u w L) (hS : ∀ w, Own u w L → S w) (n : Nat) (c : Array Value) (t : TypeId) (hrun : ∀ w, (execOp a.eval o).run Tryz.prog w = .ok (.value (.slice (some ⟨w.heap.size, 0, none⟩) n n)) (w.alloc (.cells c t)))
    (h : ∀ q w', Below w.heap.size w w' → Blk w' q c t → Own u w' L → M (a.put o.dst (.slice (some ⟨q, 0, none⟩) n n)) w') : o.wp Tryz.prog a w K Q :=
  o_bs hO n c t hrun fun q w' h1 h2 h3 => hK _ _ (hS w' h3) (h q w' h1 h2 h3)
theorem kb_cw (hK : ∀ a w, S w → M a w → K a w) (hO : Own u w L) (hS : ∀ w, Own u w L → S w) (f : FuncId) (args : Array Value) (v : Value) (hc : Ret f args w v)
    (h : ∀ w', Below w.heap.size w w' → Own u w' L → M (a.put o.dst v) w') (hrun : (execOp a.eval o).run Tryz.prog w = .ok (.enter f args) w := by kernel_rfl) : o.wp Tryz.prog a w K Q :=
  o_cw hO f args hrun v hc fun w' h1 h2 => hK _ _ (hS w' h2) (h w' h1 h2)
theorem alb6 (ho : o.op = .alloc 24) (w : World) : (execOp a.eval o).run Tryz.prog w = .ok (.value (.pointer (some ⟨w.heap.size, 0, none⟩))) (w.alloc (.cells (vals .u8 64 (fun _ => 0)) 24)) := by unfold execOp; simp only [ho]; kernel_rfl
end
theorem fit_b6 (f : Nat → Nat) : Fit 24 (vals .u8 64 f) := ⟨by rw [vals_size]; kernel_rfl, vals_one _ _ _⟩
theorem fit_sl (A : Option Addr) (n c : Nat) : Fit 35 #[.slice A n c] := ⟨by kernel_rfl, by kernel_rfl⟩
theorem part_b60 (f : Nat → Nat) : Part (vals .u8 64 f) 0 22 (vals .u8 32 f) := ⟨by kernel_rfl, by kernel_rfl⟩
theorem part_b632 (f : Nat → Nat) : Part (vals .u8 64 f) 32 22 (vals .u8 32 (fun j => f (32 + j))) := ⟨by kernel_rfl, by kernel_rfl⟩
theorem bd_by0 : Tryz.prog.built 22 [] = some (vals .u8 32 (fun _ => 0)) := by kernel_rfl
theorem get_b6 (f : Nat → Nat) (i : Nat) (hi : i < 64) : (vals .u8 64 f)[i]? = some (.int .u8 ((f i : Nat) : Int)) := vals_get _ _ _ _ hi
/-- The bytes of thirty-two, as a list. -/
def bl (f : Nat → Nat) : List Nat := (List.range 32).map f
theorem bl_len (f : Nat → Nat) : (bl f).length = 32 := by simp [bl]
theorem bl_lt (f : Nat → Nat) (hf : ∀ i, f i < 256) : ∀ x ∈ bl f, x < 256 := fun x hx => by
  obtain ⟨i, _, rfl⟩ := List.mem_map.1 hx; exact hf i
theorem bl_congr {f g : Nat → Nat} (h : ∀ i, i < 32 → f i = g i) : bl f = bl g := List.map_congr_left fun i hi => h i (List.mem_range.1 hi)
open T in
theorem rds_bl {w : World} {b : Nat} {t : TypeId} {f : Nat → Nat} (h : Blk w b (vals .u8 32 f) t) : Rds w (some ⟨b, 0, none⟩) (bl f) := rds_vals h
/-- A slice of a row of thirty-two bytes, as a part. -/
def pt32 (b : Nat) (f : Nat → Nat) : T.Pt := (some ⟨b, 0, none⟩, bl f, 32)
open T in
theorem ok32 {w : World} {b : Nat} {t : TypeId} {f : Nat → Nat} (h : Blk w b (vals .u8 32 f) t) (hf : ∀ i, f i < 256) : Rds w (pt32 b f).1 (pt32 b f).2.1 ∧ (pt32 b f).2.1.length ≤ (pt32 b f).2.2 ∧ ∀ x ∈ (pt32 b f).2.1, x < 256 :=
  ⟨rds_bl h, by show (bl f).length ≤ 32; rw [bl_len]; exact Nat.le_refl _, bl_lt f hf⟩
open T in
theorem pt_one1 {w : World} {q : Nat} {A : Option Addr} {l : List Nat} {c n : Nat} (h : Blk w q #[.slice A n c] 23) (hn : l.length = n) : Prt w (some ⟨q, 0, none⟩) [(A, l, c)] := by
  subst hn
  exact prt_blk h _ fun i p hp => by
    rcases i with _ | i
    · obtain rfl := Option.some.inj hp; rfl
    · cases hp
open T in
theorem pt_two1 {w : World} {q : Nat} {A B : Option Addr} {k l : List Nat} {c d m n : Nat} (h : Blk w q #[.slice A m c, .slice B n d] 23) (hm : k.length = m) (hn : l.length = n) : Prt w (some ⟨q, 0, none⟩) [(A, k, c), (B, l, d)] := by
  subst hm hn
  exact prt_blk h _ fun i p hp => by
    rcases i with _ | _ | i
    · obtain rfl := Option.some.inj hp; rfl
    · obtain rfl := Option.some.inj hp; rfl
    · cases hp
open T in
theorem cat_one (p : Pt) : cat [p] = p.2.1 := by simp [cat]
open T in
theorem cat_two (p q : Pt) : cat [p, q] = p.2.1 ++ q.2.1 := by simp [cat]
end Go.Proofs.YtbpmakegimgbpaaGreatDoor

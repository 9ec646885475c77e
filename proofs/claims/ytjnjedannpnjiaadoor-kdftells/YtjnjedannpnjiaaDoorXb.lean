/- Walks of chapter 5: Expand. -/
import Derived.Test.YtjnjedannpnjiaaDoorXa
import Derived.ScopeJumps
import Derived.WalkMore
import Derived.OwnWalk
import Derived.Deep.OwnRows
namespace Go.Proofs.YtjnjedannpnjiaaDoor
open Go.RowKit

theorem scope_jumps {P : Program} {a : Act} {w : World} {Q : Exit → Act → World → Prop} {c rest : Code} (l : Nat) (J : Act → World → Prop) (μ : Act → World → Nat) (hf : findLabel c l = some (Code.skip.seq rest))
    (pass : ∀ a w, J a w → rest.wp P (Exit.jump l (fun a' w' => J a' w' ∧ μ a' w' < μ a w) Q) a w)
    (first : (∀ a w, J a w → rest.wp P (Exit.jump l J Q) a w) → c.wp P (Exit.jump l J Q) a w) : (Code.scope c).wp P Q a w :=
  wp_scope_jumps l J μ hf (first fun a w h => wp_mono (pass a w h) fun e a' w' hq => by
    cases e <;> first | exact hq | exact ⟨hq.1, hq.2.1⟩) fun a w h => wp_seq (wp_skip (pass a w h))
/-- n bytes 0. -/
theorem made_vals (n : Nat) : madeCells #[.int .u8 0] n = vals .u8 n (fun _ => 0) := by
  apply Array.ext_getElem?
  intro i
  by_cases h : i < n
  · rw [vals_get _ _ _ _ h]; simp [madeCells, h, Nat.mod_one]
  · rw [Array.getElem?_eq_none (by rw [size_madeCells]; omega), Array.getElem?_eq_none (by rw [vals_size]; omega)]
theorem make_bytes (w : World) (n : Nat) (h : n ≤ 2 ^ 40) : (Instr.makeSlice 23 (.int .i64 (n : Int)) (.int .i64 (n : Int))).run Tryd.prog w = .ok (.slice (some ⟨w.heap.size, 0, none⟩) n n) (w.alloc (.cells (vals .u8 n (fun _ => 0)) 5)) := by
  rw [← made_vals]
  exact run_make_row' (P := Tryd.prog) 23 5 (.int .u8 0) 1 Tryd.underlying23 (by kernel_rfl) rfl .i64 .i64 n (by omega) (by omega) w
theorem wpList_make_w {ops : Array Oper} {rest : List Oper} {o : Oper} {a : Act} {w : World} {Q : Exit → Act → World → Prop} (hw : Region.wanted o (yielded ops a.tmps) = true) (l c : Operand) (hop : o.op = .makeSlice 23 l c) (n : Nat) (hl : a.eval l = .int .i64 (n : Int)) (hc : a.eval c = .int .i64 (n : Int)) (hn : n ≤ 2 ^ 40)
    (hK : wpList Tryd.prog ops Q rest (a.put o.dst (.slice (some ⟨w.heap.size, 0, none⟩) n n)) (w.alloc (.cells (vals .u8 n (fun _ => 0)) 5))) : wpList Tryd.prog ops Q (o :: rest) a w :=
  wpList_want hw fun K hK' => by
    unfold Oper.wp
    simp [execOp, hop, hl, hc, make_bytes w n hn, Result.andThen]
    exact hK' _ _ hK
/-- A block laid over what was made so far. -/
def laid (F f : Nat → Nat) (d m j : Nat) : Nat := if d ≤ j ∧ j < d + m then f (j - d) else F j
theorem copy_out (w : World) (g b n d m : Nat) (F f : Nat → Nat) (t t2 : TypeId) (hG : Blk w g (vals .u8 n F) t) (hB : Blk w b (vals .u8 64 f) t2) (hd : d ≤ n) (hm : m = min 64 (n - d)) (c : Nat) (ty : TypeId) :
    (Builtin.copy_ #[23, 23] ty #[.slice (some ⟨g, d, none⟩) (n - d) c, .slice (some ⟨b, 0, none⟩) 64 64]).run Tryd.prog w = .ok (.int .i64 (m : Int)) (w.setRow g (vals .u8 n (laid F f d m))) := by
  have hlen : ((List.range m).map fun i => Value.int .u8 (f i : Nat)).length = m := by simp
  have h := run_copy_row (P := Tryd.prog) w 23 23 ty 5 g d (n - d) c ⟨b, 0, none⟩ 64 64 (vals .u8 n F) t ((List.range m).map fun i => Value.int .u8 (f i : Nat)) Tryd.underlying23 (by kernel_rfl) hG (by rw [hlen, hm]) (fun j v hv => by
    rw [List.getElem?_map] at hv
    by_cases hj : j < m
    · rw [List.getElem?_range hj] at hv
      obtain rfl := Option.some.inj hv
      rw [Addr.add_mid, Nat.zero_add, hB.cell, vals_get _ _ _ _ (by omega)]
    · rw [List.getElem?_eq_none (by simp; omega)] at hv; cases hv) (by rw [hlen, vals_size]; omega) (fun v hv => by
    obtain ⟨i, _, rfl⟩ := List.mem_map.1 hv; rfl)
  rw [h, hlen]
  have e : ((vals .u8 n F).toList.take d ++ (List.range m).map (fun i => Value.int .u8 (f i : Nat)) ++ (vals .u8 n F).toList.drop (d + m)).toArray = vals .u8 n (laid F f d m) := by
    apply Array.ext_getElem?
    intro i
    have e1 : (vals .u8 n F).toList.length = n := by rw [Array.length_toList, vals_size]
    have hs := splice_get (vals .u8 n F).toList ((List.range m).map fun i => Value.int .u8 (f i : Nat)) d i (by rw [hlen, e1]; omega)
    rw [hlen] at hs
    rw [List.getElem?_toArray, hs]
    unfold laid
    by_cases h1 : d ≤ i ∧ i < d + m
    · rw [if_pos h1, vals_get _ _ _ _ (by omega), if_pos h1, List.getElem?_map, List.getElem?_range (by omega)]; rfl
    · rw [if_neg h1, Array.getElem?_toList]
      by_cases h2 : i < n
      · rw [vals_get _ _ _ _ h2, vals_get _ _ _ _ h2, if_neg h1]
      · rw [Array.getElem?_eq_none (by rw [vals_size]; omega), Array.getElem?_eq_none (by rw [vals_size]; omega)]
  rw [e]
  rfl
/-- The bytes of all blocks up to one, as far as there are any. -/
def tg (k u : List Nat) (i j : Nat) : Nat := (tc k u i).getD j 0
theorem tg_next (k u : List Nat) (i n j : Nat) (f : Nat → Nat) (hf : (List.range 64).map f = tb k u (i + 1)) (hj : j < n) (h : 64 * i < n) : laid (tg k u i) f (64 * i) (min 64 (n - 64 * i)) j = tg k u (i + 1) j := by
  have e : tc k u (i + 1) = tc k u i ++ tb k u (i + 1) := rfl
  have hl := tc_len k u i
  unfold laid tg
  rw [e, List.getD_eq_getElem?_getD, List.getD_eq_getElem?_getD]
  by_cases h1 : 64 * i ≤ j ∧ j < 64 * i + min 64 (n - 64 * i)
  · rw [if_pos h1, List.getElem?_append_right (by omega), hl, ← hf, List.getElem?_map, List.getElem?_range (by omega)]; rfl
  · rw [if_neg h1]
    by_cases h2 : j < 64 * i
    · rw [List.getElem?_append_left (by omega)]
    · rw [List.getElem?_eq_none (by omega), List.getElem?_eq_none (by rw [List.length_append, hl, tb_len]; omega)]
theorem tg_end (k u : List Nat) (i n : Nat) (h : n ≤ 64 * i) : (List.range n).map (tg k u i) = xp k u n := by
  rw [← xp_of k u n i h]
  apply List.ext_getElem?
  intro j
  rw [List.getElem?_map, List.getElem?_take]
  by_cases hj : j < n
  · rw [List.getElem?_range hj, if_pos hj, List.getElem?_eq_getElem (by rw [tc_len]; omega)]
    show some ((tc k u i).getD j 0) = _
    rw [List.getD_eq_getElem?_getD, List.getElem?_eq_getElem (by rw [tc_len]; omega)]; rfl
  · rw [List.getElem?_eq_none (by simp; omega), if_neg hj]; rfl
theorem tb_next (k u : List Nat) (i : Nat) (h : i < 255) : tb k u (i + 1) = (List.range 64).map (mc k (tb k u i ++ (u ++ [i + 1]))) := by
  show ml k (tb k u i ++ u ++ [(i + 1) % 256]) = _
  rw [Nat.mod_eq_of_lt (by omega), List.append_assoc]; rfl
end Go.Proofs.YtjnjedannpnjiaaDoor

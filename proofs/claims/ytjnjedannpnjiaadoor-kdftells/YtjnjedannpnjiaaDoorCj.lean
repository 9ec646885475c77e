/- Helpers for the laws: literals, what is equal. -/
import Derived.Test.YtjnjedannpnjiaaDoorCi
namespace Go.Proofs.YtjnjedannpnjiaaDoor
open Go.RowKit

section
variable {P : Program} {ops : Array Oper} {Q : Exit → Act → World → Prop} {a : Act} {w : World} {rest : List Oper} {o : Oper}
theorem wpList_want (hw : Region.wanted o (yielded ops a.tmps) = true)
    (h : ∀ K : Act → World → Prop, (∀ a w, wpList P ops Q rest a w → K a w) → o.wp P a w K Q) : wpList P ops Q (o :: rest) a w :=
  wpList_step fun K hK => by rw [if_pos hw]; exact h K hK
theorem wpList_load_w (hw : Region.wanted o (yielded ops a.tmps) = true) (ty : TypeId) (x : Operand) (ho : o.op = .load ty x)
    (g : Nat) (hx : a.eval x = .pointer (some ⟨g, 0, none⟩)) (t : TypeId) (cs : Array Value) (fr : Nat × Nat) (d : TypeDesc) (hg : w.heap[g]? = some (.cells cs t fr))
    (hu : P.underlying ty = some d) (hd : (match d with | .struct _ | .array _ _ => true | _ => false) = true) (hi : (P.info? ty).map (·.size) = some cs.size)
    (h : wpList P ops Q rest (a.put o.dst (.agg cs)) w) : wpList P ops Q (o :: rest) a w :=
  wpList_want hw fun _ hK => wp_load_row ty x ho g hx t cs fr d hg hu hd hi (hK _ _ h)
theorem wpList_build_w (hw : Region.wanted o (yielded ops a.tmps) = true) (t : TypeId) (parts : Array (Nat × Operand)) (ho : o.op = .build t parts) (c : Array Value)
    (hf : P.built t (parts.map fun (i, x) => (i, a.eval x)).toList = some c)
    (h : wpList P ops Q rest (a.put o.dst (.agg c)) w) : wpList P ops Q (o :: rest) a w :=
  wpList_want hw fun _ hK => wp_build t parts ho (by rw [hf]; rfl) (hK _ _ (by rw [hf]; exact h))
end
theorem yields_build {P : Program} {ops : Array Oper} {op : Oper} {a : Act} {S : World → Prop} {c : Array Value} (hw : Region.wanted op (yielded ops a.tmps) = true) (t : TypeId) (parts : Array (Nat × Operand)) (ho : op.op = .build t parts)
    (h : P.built t (parts.map fun (i, x) => (i, a.eval x)).toList = some c) : YieldsIf P ops S op (.agg c) a :=
  .inl ⟨hw, fun w _ => by
    unfold execOp
    simp only [ho, Sem.run_bind, run_build w t _ c h, Result.andThen_ok]
    rfl⟩
theorem size5 (w : World) : (sizeOf 5).run Tryd.prog w = .ok 1 w := by kernel_rfl
theorem eq_dg (f g : Nat → Nat) (w : World) : (Op.equalIn 10000 27 (.agg (vals .u8 64 f)) (.agg (vals .u8 64 g))).run Tryd.prog w = .ok ((List.range 64).all fun i => f i == g i) w :=
  run_equal_vals (P := Tryd.prog) w 9998 27 5 64 .u8 Tryd.underlying27 Tryd.underlying5 size5 f g
theorem eq_same (f g : Nat → Nat) (h : ∀ i, i < 64 → f i = g i) (w : World) : (Op.equalIn 10000 27 (.agg (vals .u8 64 f)) (.agg (vals .u8 64 g))).run Tryd.prog w = .ok true w := by
  rw [eq_dg]
  congr 1
  rw [List.all_eq_true]
  intro i hi
  rw [beq_iff_eq]; exact h i (by simpa using hi)
theorem eq_self (f : Nat → Nat) (w : World) : (Op.equalIn 10000 27 (.agg (vals .u8 64 f)) (.agg (vals .u8 64 f))).run Tryd.prog w = .ok true w := eq_same f f (fun _ _ => rfl) w
theorem keepCall {w0 w y y' : World} (hb : Below y.heap.size y y') (he : w.heap.size = w0.heap.size) (h : Below w0.heap.size w y) : Below w0.heap.size w y' := h.trans (hb.mono (by rw [← he]; exact h.size))
theorem keepLow2 {w x y : World} (h : Below w.heap.size w x) (hb : Below x.heap.size x y) : Below w.heap.size w y := h.trans (hb.mono h.size)
/-- A block that holds bytes is read as such. -/
theorem rds_blk {w : World} {b : Nat} {c : Array Value} {t : TypeId} (h : Blk w b c t) (l : List Nat) (hc : ∀ (i : Nat) (x : Nat), l[i]? = some x → c[i]? = some (.int .u8 (x : Nat))) : Rds w (some ⟨b, 0, none⟩) l :=
  Or.inr ⟨_, rfl, h.lt, fun i x hx => by rw [Addr.add_mid, Nat.zero_add, h.cell i]; exact hc i x hx⟩
theorem prt_blk {w : World} {b : Nat} {c : Array Value} {t : TypeId} (h : Blk w b c t) (ps : List Pt) (hc : ∀ (i : Nat) (q : Pt), ps[i]? = some q → c[i]? = some (.slice q.1 q.2.1.length q.2.2)) : Prt w (some ⟨b, 0, none⟩) ps :=
  Or.inr ⟨_, rfl, h.lt, fun i x hx => by rw [Addr.add_mid, Nat.zero_add, h.cell i]; exact hc i x hx⟩
theorem all_one (A : Option Addr) (l : List Nat) (cap b : Nat) (t : TypeId) (args : Array Value) (w : World) (h : args = #[.slice (some ⟨b, 0, none⟩) 1 1]) (hB : Blk w b #[.slice A l.length cap] t) (hG : Glob w) (hA : Rds w A l) (hc : l.length ≤ cap) (hl : ∀ x ∈ l, x < 256) (hs : l.length < 2 ^ 60) :
    Calls Tryd.prog 22 args w fun e w' => e = .returned (.agg (vals .u8 64 (dg l))) ∧ Below w.heap.size w w' := by
  subst h
  have e : cat [(A, l, cap)] = l := by simp [cat]
  have := all_at (some ⟨b, 0, none⟩) [(A, l, cap)] 1 _ w rfl hG (prt_blk hB _ fun i q hq => by
    rcases i with _ | i
    · obtain rfl := Option.some.inj hq; rfl
    · cases hq) (fun q hq => by
    obtain rfl : q = (A, l, cap) := by simpa using hq
    exact ⟨hA, hc, hl⟩) (by rw [e]; exact hs) (by simp)
  rw [e] at this
  exact this
theorem all_two (A B : Option Addr) (k l : List Nat) (ca cb b : Nat) (t : TypeId) (args : Array Value) (w : World) (h : args = #[.slice (some ⟨b, 0, none⟩) 2 2]) (hB : Blk w b #[.slice A k.length ca, .slice B l.length cb] t) (hG : Glob w) (hA : Rds w A k) (hc : k.length ≤ ca) (hl : ∀ x ∈ k, x < 256) (hA2 : Rds w B l) (hc2 : l.length ≤ cb) (hl2 : ∀ x ∈ l, x < 256) (hs : k.length + l.length < 2 ^ 60) :
    Calls Tryd.prog 22 args w fun e w' => e = .returned (.agg (vals .u8 64 (dg (k ++ l)))) ∧ Below w.heap.size w w' := by
  subst h
  have e : cat [(A, k, ca), (B, l, cb)] = k ++ l := by simp [cat]
  have := all_at (some ⟨b, 0, none⟩) [(A, k, ca), (B, l, cb)] 2 _ w rfl hG (prt_blk hB _ fun i q hq => by
    rcases i with _ | _ | i
    · obtain rfl := Option.some.inj hq; rfl
    · obtain rfl := Option.some.inj hq; rfl
    · cases hq) (fun q hq => by
    rcases List.mem_cons.1 hq with rfl | hq
    · exact ⟨hA, hc, hl⟩
    · obtain rfl : q = (B, l, cb) := by simpa using hq
      exact ⟨hA2, hc2, hl2⟩) (by rw [e, List.length_append]; exact hs) (by simp)
  rw [e] at this
  exact this
theorem all_none (args : Array Value) (w : World) (h : args = #[.slice none 0 0]) (hG : Glob w) :
    Calls Tryd.prog 22 args w fun e w' => e = .returned (.agg (vals .u8 64 (dg []))) ∧ Below w.heap.size w w' := by
  subst h
  exact all_at none [] 0 _ w rfl hG (Or.inl rfl) (fun q hq => by cases hq) (by simp [cat]) (by simp)
theorem all_three (A B C : Option Addr) (k l m : List Nat) (ca cb cc b : Nat) (t : TypeId) (args : Array Value) (w : World) (h : args = #[.slice (some ⟨b, 0, none⟩) 3 3]) (hB : Blk w b #[.slice A k.length ca, .slice B l.length cb, .slice C m.length cc] t) (hG : Glob w) (hA : Rds w A k) (hc : k.length ≤ ca) (hl : ∀ x ∈ k, x < 256) (hA2 : Rds w B l) (hc2 : l.length ≤ cb) (hl2 : ∀ x ∈ l, x < 256)
    (hA3 : Rds w C m) (hc3 : m.length ≤ cc) (hl3 : ∀ x ∈ m, x < 256) (hs : k.length + (l.length + m.length) < 2 ^ 60) :
    Calls Tryd.prog 22 args w fun e w' => e = .returned (.agg (vals .u8 64 (dg (k ++ (l ++ m))))) ∧ Below w.heap.size w w' := by
  subst h
  have e : cat [(A, k, ca), (B, l, cb), (C, m, cc)] = k ++ (l ++ m) := by simp [cat]
  have := all_at (some ⟨b, 0, none⟩) [(A, k, ca), (B, l, cb), (C, m, cc)] 3 _ w rfl hG (prt_blk hB _ fun i q hq => by
    rcases i with _ | _ | _ | i
    · obtain rfl := Option.some.inj hq; rfl
    · obtain rfl := Option.some.inj hq; rfl
    · obtain rfl := Option.some.inj hq; rfl
    · cases hq) (fun q hq => by
    rcases List.mem_cons.1 hq with rfl | hq
    · exact ⟨hA, hc, hl⟩
    · rcases List.mem_cons.1 hq with rfl | hq
      · exact ⟨hA2, hc2, hl2⟩
      · obtain rfl : q = (C, m, cc) := by simpa using hq
        exact ⟨hA3, hc3, hl3⟩) (by rw [e, List.length_append, List.length_append]; exact hs) (by simp)
  rw [e] at this
  exact this
/-- Block b holds just the cells c. -/
def Cel (w : World) (b : Nat) (c : Array Value) : Prop := ∃ t fz, w.heap[b]? = some (.cells c t fz)
theorem Blk.cel {w : World} {b : Nat} {c : Array Value} {t : TypeId} (h : Blk w b c t) : Cel w b c := ⟨t, (0, 0), h⟩
theorem Cel.lt {w : World} {b : Nat} {c : Array Value} (h : Cel w b c) : b < w.heap.size := by
  obtain ⟨t, fz, h⟩ := h
  exact (Array.getElem?_eq_some_iff.1 h).1
theorem Cel.cell {w : World} {b : Nat} {c : Array Value} (h : Cel w b c) (j : Nat) : w.cell? ⟨b, j, none⟩ = c[j]? := by
  obtain ⟨t, fz, h⟩ := h
  simp [World.cell?, h]
theorem Cel.low {w w' : World} {b : Nat} {c : Array Value} (h : Cel w b c) (hb : Below w.heap.size w w') : Cel w' b c := by
  have hl := h.lt
  obtain ⟨t, fz, h⟩ := h
  exact ⟨t, fz, by rw [hb.block b hl]; exact h⟩
theorem Cel.freeze {w : World} {b : Nat} {c : Array Value} (h : Cel w b c) (a : Addr) : Cel (w.freeze a 1) b c := by
  obtain ⟨t, fz, h⟩ := h
  unfold World.freeze
  rw [if_neg (by decide)]
  by_cases e : a.block = b
  · subst e
    exact ⟨t, _, by simp only [Array.getElem?_modify, if_true, h, Option.map_some]; rfl⟩
  · exact ⟨t, fz, by simp only [Array.getElem?_modify, e, if_false]; exact h⟩
theorem Below.freeze {B : Nat} {x w : World} (h : Below B x w) {a : Addr} (ha : B ≤ a.block) : Below B x (w.freeze a 1) := by
  refine h.trans ?_
  unfold World.freeze
  rw [if_neg (by decide)]
  exact ⟨rfl, rfl, rfl, by simp, fun k hk => by simp only [Array.getElem?_modify]; rw [if_neg (by omega)]⟩
theorem conv22 {w : World} {b : Nat} {C : Array Value} (h : Cel w b C) (n c : Nat) : (convert 23 23 (.slice (some ⟨b, 0, none⟩) n c)).run Tryd.prog w = .ok (.slice (some ⟨b, 0, none⟩) n c) (w.freeze ⟨b, C.size, none⟩ 1) := by
  obtain ⟨t, fz, h⟩ := h
  have hsh : w.shape? b = some (t, C.size) := by unfold World.shape?; rw [h]
  simp [convert, run_underlying Tryd.underlying23, run_underlying Tryd.underlying5, markStringish, hsh]
theorem wp_conv22 {o : Oper} {a : Act} {w : World} {K : Act → World → Prop} {Q : Exit → Act → World → Prop} (x : Operand) (ho : o.op = .convert 23 23 x) {b n c : Nat} {C : Array Value} (hx : a.eval x = .slice (some ⟨b, 0, none⟩) n c) (h : Cel w b C)
    (hK : K (a.put o.dst (.slice (some ⟨b, 0, none⟩) n c)) (w.freeze ⟨b, C.size, none⟩ 1)) : o.wp Tryd.prog a w K Q := by
  unfold Oper.wp execOp
  simp only [ho, hx, Sem.run_bind, conv22 h, Result.andThen_ok]
  exact hK
theorem rds_cel {w : World} {b : Nat} {c : Array Value} (h : Cel w b c) (l : List Nat) (hc : ∀ (i : Nat) (x : Nat), l[i]? = some x → c[i]? = some (.int .u8 (x : Nat))) : Rds w (some ⟨b, 0, none⟩) l :=
  Or.inr ⟨_, rfl, h.lt, fun i x hx => by rw [Addr.add_mid, Nat.zero_add, h.cell i]; exact hc i x hx⟩
/-- The text of awake. -/
def abc : List Nat := [97, 98, 99]
theorem abc_lt : ∀ x ∈ abc, x < 256 := by decide
theorem a_get (i x : Nat) (h : [97][i]? = some x) : (#[.int .u8 97] : Array Value)[i]? = some (.int .u8 (x : Nat)) := by
  rcases i with _ | i
  · obtain rfl := Option.some.inj h; rfl
  · cases h
theorem bc_get (i x : Nat) (h : [98, 99][i]? = some x) : (#[.int .u8 98, .int .u8 99] : Array Value)[i]? = some (.int .u8 (x : Nat)) := by
  rcases i with _ | _ | i
  · obtain rfl := Option.some.inj h; rfl
  · obtain rfl := Option.some.inj h; rfl
  · cases h
theorem abc_get (i x : Nat) (h : abc[i]? = some x) : (#[.int .u8 97, .int .u8 98, .int .u8 99] : Array Value)[i]? = some (.int .u8 (x : Nat)) := by
  rcases i with _ | _ | _ | i
  · obtain rfl := Option.some.inj h; rfl
  · obtain rfl := Option.some.inj h; rfl
  · obtain rfl := Option.some.inj h; rfl
  · cases h
end Go.Proofs.YtjnjedannpnjiaaDoor

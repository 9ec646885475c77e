/- Laws for ShaParts: parts that are appended. -/
import Derived.Test.YtplckpmicoohnaaDoorLa
namespace Go.Proofs.YtplckpmicoohnaaDoor
open Go.RowKit

/-- Numbers of sixteen bits. -/
def RdU (w : World) (A : Option Addr) (l : List Nat) : Prop := l = [] ∨ ∃ a, A = some a ∧ a.block < w.heap.size ∧ ∀ (i : Nat) (x : Nat), l[i]? = some x → w.cell? (a.add i) = some (.int .u16 (x : Nat))
theorem RdU.low {w w' : World} {A : Option Addr} {l : List Nat} (h : RdU w A l) (hb : Below w.heap.size w w') : RdU w' A l := by
  rcases h with h | ⟨a, ha, hlt, hc⟩
  · exact Or.inl h
  · refine Or.inr ⟨a, ha, Nat.lt_of_lt_of_le hlt hb.size, fun i x hx => ?_⟩
    rw [hb.cell (p := a.add i) (by rw [add_block]; exact hlt)]
    exact hc i x hx
def ptv (ps : List Pt) : List Value := ps.map fun q => Value.slice q.1 q.2.1.length q.2.2
theorem ptv_len (ps : List Pt) : (ptv ps).length = ps.length := by simp [ptv]
theorem own_prt {w : World} {B : Nat} {v : Value} {ps : List Pt} (h : Own w B 22 v (ptv ps)) : ∃ P pc, v = .slice P ps.length pc ∧ Prt w P ps := by
  obtain ⟨A, cap, cells, rfl, h2, h3, h4, h5⟩ := h
  rw [ptv_len] at h2 ⊢
  refine ⟨A, cap, rfl, ?_⟩
  rcases h5 with ⟨g, rfl, hg, hB⟩ | ⟨rfl, rfl⟩
  · exact prt_blk hB ps (fun i q hq => h4 i _ (by unfold ptv; rw [List.getElem?_map, hq]; rfl))
  · left; exact List.eq_nil_of_length_eq_zero (by omega)
theorem app_part {B : Nat} {w : World} {P : Option Addr} {pc : Nat} {ps : List Pt} (h : Own w B 22 (.slice P ps.length pc) (ptv ps)) (hBw : B ≤ w.heap.size) (q : Pt) (hl : ps.length < 2 ^ 30) :
    ∃ P' pc' w', (∀ ty, (Builtin.append_ #[44, 44] ty #[.slice P ps.length pc, .slice (some ⟨w.heap.size, 0, none⟩) 1 1]).run Tryd.prog (w.alloc (.cells #[.slice q.1 q.2.1.length q.2.2] 22)) = .ok (.slice P' (ps.length + 1) pc') w') ∧ Own w' B 22 (.slice P' (ps ++ [q]).length pc') (ptv (ps ++ [q])) ∧ Below B w w' ∧ w.heap.size ≤ w'.heap.size := by
  have hs : Src Tryd.prog 1 44 (.slice (some ⟨w.heap.size, 0, none⟩) 1 1) [Value.slice q.1 q.2.1.length q.2.2].length [Value.slice q.1 q.2.1.length q.2.2] (w.alloc (.cells #[.slice q.1 q.2.1.length q.2.2] 22)) :=
    Src.ofSlice _ Tryd.underlying44 _ 1 1 _ (by simp) (fun j u hu => by
      rcases j with _ | j
      · obtain rfl := Option.some.inj hu
        rw [Addr.add_mid, Nat.zero_add, (Blk.new w _ _).cell]; rfl
      · cases hu) (fun u hu => by
      obtain rfl : u = _ := by simpa using hu
      rfl)
  obtain ⟨v', w', hr, ho, hsz, hlo⟩ := own_append Tryd.underlying44 (by kernel_rfl) (by kernel_rfl) (by kernel_rfl) (h.alloc (.cells #[.slice q.1 q.2.1.length q.2.2] 22)) (by simp; omega) _ _ hs (Or.inl (by simp)) (by rw [ptv_len]; simp; omega)
  have e : ptv ps ++ [Value.slice q.1 q.2.1.length q.2.2] = ptv (ps ++ [q]) := by simp [ptv]
  rw [e] at ho
  obtain ⟨P', pc', rfl, _⟩ := own_prt ho
  refine ⟨P', pc', w', ?_, ho, hlo w ((Below.refl B w).alloc hBw _), by have := hsz; simp at this; omega⟩
  intro ty
  have := hr ty
  rw [List.length_append] at this
  exact this
theorem cat_app (ps : List Pt) (q : Pt) : cat (ps ++ [q]) = cat ps ++ q.2.1 := by simp [cat]
theorem ptok_app {w : World} {ps : List Pt} {q : Pt} (h : PtOk w ps) (hq : Rds w q.1 q.2.1 ∧ q.2.1.length ≤ q.2.2 ∧ ∀ x ∈ q.2.1, x < 256) : PtOk w (ps ++ [q]) := fun p hp => by
  rcases List.mem_append.1 hp with h1 | h1
  · exact h p h1
  · obtain rfl : p = q := by simpa using h1
    exact hq
theorem Own.below {w w' : World} {B : Nat} {e : TypeId} {v : Value} {vs : List Value} {g : Nat} {cs : Array Value} (h : Own w B e v vs) (hg : g < B) (he : w' = w.setRow g cs) : Own w' B e v vs := by
  subst he
  obtain ⟨A, cap, cells, h1, h2, h3, h4, h5⟩ := h
  refine ⟨A, cap, cells, h1, h2, h3, h4, ?_⟩
  rcases h5 with ⟨k, hA, hk, hB⟩ | h5
  · exact Or.inl ⟨k, hA, hk, hB.rowOther cs (by omega)⟩
  · exact Or.inr h5
theorem Own.made {w w' : World} {B : Nat} {e : TypeId} {v : Value} {vs : List Value} {o : Obj} (h : Own w B e v vs) (S : Sto w.heap.size (w.alloc o) w') : Own w' B e v vs := by
  obtain ⟨A, cap, cells, h1, h2, h3, h4, h5⟩ := h
  refine ⟨A, cap, cells, h1, h2, h3, h4, ?_⟩
  rcases h5 with ⟨k, hA, hk, hB⟩ | h5
  · exact Or.inl ⟨k, hA, hk, S.other _ _ _ (Nat.ne_of_gt hB.lt) (hB.alloc o)⟩
  · exact Or.inr h5
theorem wpList_app {P : Program} {w : World} {ops : Array Oper} {rest : List Oper} {o : Oper} {a : Act} {Q : Exit → Act → World → Prop} (hgd : o.guard = none) (d s : Operand) (t : TypeId) (ho : o.op = .call { callee := .builtin .append, args := #[d, s], argTypes := #[t, t] })
    {v x v' : Value} {w' : World} (hd : a.eval d = v) (hs : a.eval s = x) (hrun : ∀ ty, (Builtin.append_ #[t, t] ty #[v, x]).run P w = .ok v' w') (h : wpList P ops Q rest (a.put o.dst v') w') : wpList P ops Q (o :: rest) a w := by
  refine wpList_plain hgd fun K hK => ?_
  unfold Oper.wp
  simp [execOp, ho, resolve, invoke, builtin, hd, hs, hrun, Result.andThen]
  exact hK _ _ h
theorem rem300 (t : Nat) : (t : Int).tmod 300 = ((t % 300 : Nat) : Int) := by rw [Int.tmod_eq_emod_of_nonneg (by omega)]; omega
end Go.Proofs.YtplckpmicoohnaaDoor

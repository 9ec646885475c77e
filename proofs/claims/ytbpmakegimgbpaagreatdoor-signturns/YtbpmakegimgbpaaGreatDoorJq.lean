/- Texts in one: Gp Gq. -/
import Derived.Test.YtbpmakegimgbpaaGreatDoorPn
import Derived.Test.YtbpmakegimgbpaaGreatDoorJo
namespace Go.Proofs.YtbpmakegimgbpaaGreatDoor
set_option maxRecDepth 100000
open Go.RowKit Rg
theorem cn_ret {f : FuncId} {args : Array Value} {g : FuncId} {w : World} {c : Array Value} {t : TypeId} (h : CallsNew f args g w c t) : RetN f args w (fun q => .func (.func g) #[] #[.pointer (some ⟨q, 0, none⟩)]) c t := by
  refine Calls.mono h fun e w' hh => ?_
  obtain ⟨he, hB, hb⟩ := hh
  exact ⟨_, he, hb, Nat.le_refl _, hB⟩
end Go.Proofs.YtbpmakegimgbpaaGreatDoor
namespace Go.Proofs.YtbpmakegimgbpaaGreatDoor
set_option maxRecDepth 100000
open Go.RowKit

namespace Rf
open Rg
section
variable {ops : Array Oper} {F : Nu → Act} {u : World} {l : List Ent} {m : Nu → List Ent} {i : Nat} {o : Oper}
theorem gperm (p : Nat) {c : Nu → Array Value} {ty : TypeId} {q : Nu → Option (Nat × Array Value)} (hp : ∀ ν n, (m (up ν i n))[p]? = some (i, c ν, ty, q ν)) (hm0 : ∀ ν n, m (up ν i n) = m ν)
    (hq : ∀ ν, (match q ν with | none => true | some q => q.1 != i && aft true ops q.1 i) = true)
    (hs : ∀ ν, (ns i l && ns i ((m ν).take p) && ns i ((m ν).drop (p + 1)) && nk_ i ((m ν).take p) && nk_ i ((m ν).drop (p + 1))) = true) (D : Dn) (ν : Nu) (n : Nat) (my : May ops D i) : (rws l m D ν ++ [(n, c ν, ty)]).Perm (rws l m (ins D i) (up ν i n)) := by
  have hp' := hp ν n
  rw [hm0] at hp'
  obtain ⟨mm, hmm⟩ : ∃ mm, m ν = mm := ⟨_, rfl⟩
  have h := hs ν
  unfold rws
  rw [hm0]
  rw [hmm] at h hp' ⊢
  simp only [Bool.and_eq_true] at h
  obtain ⟨⟨⟨⟨h1, h2⟩, h3⟩, h4⟩, h5⟩ := h
  have hsp := split hp'
  rw [old_ins D i l h1]
  have hcur : ∀ D' : Dn, (∀ k, D' k = D k ∨ k = i) → cur D' (c ν) (q ν) = c ν := by
    intro D' hD
    have hq' := hq ν
    cases hqq : q ν with
    | none => rfl
    | some z =>
      rw [hqq] at hq'
      simp only [Bool.and_eq_true, bne_iff_ne, ne_eq] at hq'
      have hz := my.nf my.not hq'.2
      show (bif D' z.1 then z.2 else c ν) = c ν
      rcases hD z.1 with h | h
      · rw [h, hz]; rfl
      · exact (hq'.1 h).elim
  have e1 : nws D ν mm = nws D ν (mm.take p) ++ nws D ν (mm.drop (p + 1)) := by
    conv => lhs; rw [hsp, nws_app]
    congr 1
    show (bif D i then _ else []) ++ _ = _
    rw [my.not]; rfl
  have e2 : nws (ins D i) (up ν i n) mm = nws D ν (mm.take p) ++ (n, c ν, ty) :: nws D ν (mm.drop (p + 1)) := by
    conv => lhs; rw [hsp, nws_app]
    rw [(nws_ins D ν i n _ h2 h4).1]
    congr 1
    show (bif ins D i i then [(up ν i n i, cur (ins D i) (c ν) (q ν), ty)] else []) ++ nws (ins D i) (up ν i n) (mm.drop (p + 1)) = _
    rw [ins_self, (nws_ins D ν i n _ h3 h5).1, hcur (ins D i) (fun k => by by_cases hk : k = i; exact .inr hk; exact .inl (ins_ne D (by simpa using hk)))]
    rw [show up ν i n i = n by unfold up; rw [if_pos rfl]]
    rfl
  rw [e1, e2, List.append_assoc, List.append_assoc]
  refine List.Perm.append_left _ (List.Perm.append_left _ ?_)
  exact List.perm_append_singleton _ _
/-- A new row, of which the operation tells more than its place. -/
theorem gn (p : Nat) (v : Nu → Nat → Value) {c : Nu → Array Value} {ty : TypeId} {q : Nu → Option (Nat × Array Value)} (hp : ∀ ν n, (m (up ν i n))[p]? = some (i, c ν, ty, q ν)) (hm0 : ∀ ν n, m (up ν i n) = m ν) (hrun : ∀ ν w, (execOp (F ν).eval o).run Tryz.prog w = .ok (.value (v ν w.heap.size)) (w.alloc (.cells (c ν) ty))) (hf : ∀ ν, Fw ty (c ν))
    (hq : ∀ ν, (match q ν with | none => true | some q => q.1 != i && aft true ops q.1 i) = true := by intro ν; kernel_rfl)
    (hs : ∀ ν, (ns i l && ns i ((m ν).take p) && ns i ((m ν).drop (p + 1)) && nk_ i ((m ν).take p) && nk_ i ((m ν).drop (p + 1))) = true := by intro ν; kernel_rfl)
    (hm : ∀ ν n, msk ops ((F ν).put o.dst (v ν n)).tmps (deps true ops i) = msk ops (F (up ν i n)).tmps (deps true ops i) := by intro ν n; exact hm_of _ rfl (by kernel_rfl) (by kernel_rfl))
    (hw : ∀ ν, Region.wanted o (yielded ops (F ν).tmps) = true := by intro ν; kernel_rfl) (hF : ∀ ν, (F ν).defers = [] := by intro ν; kernel_rfl) : Ob ops Tryz.prog F (OD u (rws l m)) i o :=
  fnw v c ty hrun hf (gperm p hp hm0 hq hs) hm hw hF
/-- A call that answers with a row of its own. -/
theorem gcn (p : Nat) (f : FuncId) (args : Nu → Array Value) (v : Nu → Nat → Value) {c : Nu → Array Value} {ty : TypeId} {q : Nu → Option (Nat × Array Value)} (hp : ∀ ν n, (m (up ν i n))[p]? = some (i, c ν, ty, q ν)) (hm0 : ∀ ν n, m (up ν i n) = m ν) (hc : ∀ ν w, RetN f (args ν) w (v ν) (c ν) ty) (hf : ∀ ν, Fw ty (c ν))
    (hq : ∀ ν, (match q ν with | none => true | some q => q.1 != i && aft true ops q.1 i) = true := by intro ν; kernel_rfl)
    (hs : ∀ ν, (ns i l && ns i ((m ν).take p) && ns i ((m ν).drop (p + 1)) && nk_ i ((m ν).take p) && nk_ i ((m ν).drop (p + 1))) = true := by intro ν; kernel_rfl) (hrun : ∀ ν w, (execOp (F ν).eval o).run Tryz.prog w = .ok (.enter f (args ν)) w := by intro ν w; kernel_rfl)
    (hm : ∀ ν n, msk ops ((F ν).put o.dst (v ν n)).tmps (deps true ops i) = msk ops (F (up ν i n)).tmps (deps true ops i) := by intro ν n; exact hm_of _ rfl (by kernel_rfl) (by kernel_rfl))
    (hw : ∀ ν, Region.wanted o (yielded ops (F ν).tmps) = true := by intro ν; kernel_rfl) (hF : ∀ ν, (F ν).defers = [] := by intro ν; kernel_rfl) : Ob ops Tryz.prog F (OD u (rws l m)) i o := by
  refine .inr fun ν => ⟨hw ν, fun D w my hO => ?_⟩
  unfold Oper.wp
  rw [hrun ν w, Oper.upon_enter]
  refine (hc ν w).mono fun e w' hh => ?_
  obtain ⟨n, rfl, hb, hn, hB⟩ := hh
  refine ⟨up ν i n, by rw [put_defers]; exact hF ν, hm ν n, ?_⟩
  show Wn u _ (rws l m (ins D i) (up ν i n))
  exact (Wn.snoc hO hn hB hb (hf ν)).perm (gperm p hp hm0 hq hs D ν n my)
/-- What lies in a row. -/
theorem rl_ {w : World} {D : Dn} {ν : Nu} (hO : Wn u w (rws l m D ν)) (p : Nat) {b : Nat} {c : Array Value} {ty : TypeId} (hp : l[p]? = some (b, c, ty, none)) : Blk w b c ty := by
  have hm : (b, c, ty) ∈ rws l m D ν := by
    unfold rws
    rw [split hp, old_app]
    exact List.mem_append_left _ (List.mem_append_right _ (List.mem_cons_self ..))
  exact hO.blk _ hm
theorem rm_ {w : World} {D : Dn} {ν : Nu} (hO : Wn u w (rws l m D ν)) (p : Nat) {k : Nat} {c : Array Value} {ty : TypeId} (hp : (m ν)[p]? = some (k, c, ty, none)) (hk : D k = true) : Blk w (ν k) c ty := by
  have hm : (ν k, c, ty) ∈ rws l m D ν := by
    unfold rws
    rw [split hp, nws_app]
    refine List.mem_append_right _ (List.mem_append_right _ (List.mem_append_left _ ?_))
    show _ ∈ (bif D k then [(ν k, c, ty)] else [])
    rw [hk]
    exact List.mem_cons_self ..
  exact hO.blk _ hm
end
end Rf
end Go.Proofs.YtbpmakegimgbpaaGreatDoor

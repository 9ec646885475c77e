/- Regions, straight or drawn, over one frame: the one behind all operations. What each operation tells is shown once, whatever order they come in. No program; no conditions but those that each law names. -/
import Derived.Test.YtkljpidlfddgbaaAa
namespace Go.Proofs.Ytkljpidlfddgbaa
open Go.RowKit

namespace Rg
section
variable (b : Bool) (ops : Array Oper)
/-- Operation i comes behind operation j. -/
def aft (i j : Nat) : Bool := if b then ((ops.toList[i]?).map fun o => o.after.toList.any fun e => Region.binds .any e && e.on == j).getD false else decide (j < i)
/-- Operation i comes behind operation j, by a chain. -/
def reach : Nat → Nat → Nat → Bool
  | 0, i, j => aft b ops i j
  | f + 1, i, j => aft b ops i j || (List.range ops.toList.length).any fun k => aft b ops i k && reach f k j
def dstOf (j : Nat) : Option Tmp := (ops.toList[j]?).bind (·.dst)
/-- Each operation looks only at what those tell that it comes behind; no two tell the same. -/
def chk : Bool :=
  Region.noSelect ops &&
  ((List.range ops.toList.length).all fun i => ((ops.toList[i]?).map fun o =>
    (o.looksAt ops).all (fun x => (List.range ops.toList.length).all fun j => dstOf ops j != some x || aft b ops i j) &&
    (List.range i).all (fun j => dstOf ops j != o.dst || o.dst == none) &&
    (!b || o.after.toList.all fun e => !Region.binds .any e || decide (e.on < i))).getD true)
/-- Those that come behind operation i. -/
def depsL (i : Nat) : List Nat → List Nat → List Nat
  | [], D => D
  | j :: r, D => depsL i r (if j != i && ((i :: D).any fun x => aft b ops j x) then j :: D else D)
def deps (i : Nat) : List Nat := depsL b ops i (List.range ops.toList.length) []
def msk (t : Array Value) : List Nat → Array Value
  | [] => t
  | j :: r => (match dstOf ops j with | some d => (msk t r).setIfInBounds d undef | none => msk t r)
/-- When operation i may come up: behind lo of the steps, and at most hi of them. -/
def win (sts : List Nat) (i lo hi : Nat) : Bool :=
  (lo == 0 || ((sts[lo - 1]?).map fun j => reach b ops 4 i j).getD false) && (decide (sts.length ≤ hi) || ((sts[hi]?).map fun j => reach b ops 4 j i).getD false)
end
abbrev Nu := Nat → Nat
def up (ν : Nu) (i n : Nat) : Nu := fun k => if k = i then n else ν k
section
variable (b : Bool) (P : Program) (ops : Array Oper) (sts : List Nat) (F : Nu → Act) (I : Nat → Nu → World → Prop)
/-- An operation that leaves the world as it is. -/
def NS (i : Nat) (o : Oper) : Prop := sts.contains i = false ∧ ∀ ν,
  (Region.wanted o (yielded ops (F ν).tmps) = true ∧ ∃ v, (F ν).put o.dst v = F ν ∧ ∃ lo hi, win b ops sts i lo hi = true ∧ ∀ s w, lo ≤ s → s ≤ hi → I s ν w → (execOp (F ν).eval o).run P w = .ok (.value v) w) ∨
  (Region.wanted o (yielded ops (F ν).tmps) = false ∧ (F ν).put o.dst undef = F ν)
/-- A step: an operation that changes the world. -/
def SS (i : Nat) (o : Oper) : Prop := ∃ t, sts[t]? = some i ∧ (t = 0 ∨ ∃ j, sts[t - 1]? = some j ∧ reach b ops 4 i j = true) ∧ ∀ ν,
  Region.wanted o (yielded ops (F ν).tmps) = true ∧ ∀ w, I t ν w → o.wp P (F ν) w (fun a' w' => ∃ ν', a'.defers = [] ∧ msk ops a'.tmps (deps b ops i) = msk ops (F ν').tmps (deps b ops i) ∧ I (t + 1) ν' w') (fun _ _ _ => False)
def Ob (i : Nat) (o : Oper) : Prop := NS b P ops sts F I i o ∨ SS b P ops sts F I i o
def All (ob : Nat → Oper → Prop) : Nat → List Oper → Prop
  | _, [] => True
  | i, o :: r => ob i o ∧ All ob (i + 1) r
theorem All.get {ob : Nat → Oper → Prop} (l : List Oper) : ∀ {k : Nat} (_ : All ob k l) {i : Nat} {o : Oper} (_ : l[i]? = some o), ob (k + i) o := by
  induction l with
  | nil => intro k _ i o ho; cases ho
  | cons x r ih =>
    intro k h i o ho
    cases i with
    | zero =>
      have : x = o := by simpa using ho
      subst this; exact h.1
    | succ i =>
      have := ih (k := k + 1) h.2 (i := i) (o := o) (by simpa using ho)
      rwa [show k + 1 + i = k + (i + 1) by omega] at this

def Settled (listed : Array Bool) (k : Nat) : Prop := ∀ j, dstOf ops j = some k → listed.getD j false = true
structure St (listed : Array Bool) (a : Act) (w : World) : Prop where
  sz : listed.size = ops.size
  cl : ∀ i j, listed.getD i false = true → aft b ops i j = true → listed.getD j false = true
  ag : ∃ ν s, a.defers = [] ∧ a.tmps.size = (F ν).tmps.size ∧ (∀ k, Settled ops listed k → a.tmps[k]? = (F ν).tmps[k]?) ∧ s ≤ sts.length ∧ (∀ t j, sts[t]? = some j → (listed.getD j false = true ↔ t < s)) ∧ I s ν w
end
theorem put_tmps (a : Act) (d : Option Tmp) (v : Value) (k : Nat) (h : d ≠ some k) : (a.put d v).tmps[k]? = a.tmps[k]? := by
  cases d with
  | none => rfl
  | some e => simp only [Act.put]; rw [Array.getElem?_setIfInBounds_ne (fun e' => h (by rw [e']))]
theorem put_size (a : Act) (d : Option Tmp) (v : Value) : (a.put d v).tmps.size = a.tmps.size := by
  cases d with
  | none => rfl
  | some e => simp [Act.put]
theorem put_defers (a : Act) (d : Option Tmp) (v : Value) : (a.put d v).defers = a.defers := by
  cases d <;> rfl
theorem put_at (a a' : Act) (k : Nat) (v : Value) (h : a.tmps.size = a'.tmps.size) : (a.put (some k) v).tmps[k]? = (a'.put (some k) v).tmps[k]? := by
  simp only [Act.put, Array.getElem?_setIfInBounds_self, h]
theorem msk_size (ops : Array Oper) (t : Array Value) : ∀ D, (msk ops t D).size = t.size
  | [] => rfl
  | j :: r => by
    unfold msk
    split
    · rw [Array.size_setIfInBounds, msk_size ops t r]
    · exact msk_size ops t r
theorem msk_get (ops : Array Oper) (t : Array Value) (k : Nat) : ∀ D, (∀ j ∈ D, dstOf ops j ≠ some k) → (msk ops t D)[k]? = t[k]?
  | [], _ => rfl
  | j :: r, h => by
    unfold msk
    have h1 := h j (by simp)
    have h2 := msk_get ops t k r fun x hx => h x (by simp [hx])
    split
    · rename_i d hd
      rw [Array.getElem?_setIfInBounds_ne (fun e => h1 (by rw [hd, e]))]; exact h2
    · exact h2
theorem depsL_not {b : Bool} {ops : Array Oper} {i : Nat} {listed : Array Bool} (cl : ∀ i j, listed.getD i false = true → aft b ops i j = true → listed.getD j false = true) (hi : listed.getD i false = false) :
    ∀ (l D : List Nat), (∀ j ∈ D, listed.getD j false = false ∧ j ≠ i) → ∀ j ∈ depsL b ops i l D, listed.getD j false = false ∧ j ≠ i
  | [], _, h => h
  | j :: r, D, h => by
    unfold depsL
    refine depsL_not cl hi r _ ?_
    split
    · rename_i hc
      simp only [Bool.and_eq_true, bne_iff_ne, ne_eq, List.any_eq_true] at hc
      obtain ⟨hne, x, hx, ha⟩ := hc
      intro y hy
      rcases List.mem_cons.1 hy with rfl | hy
      · refine ⟨?_, hne⟩
        have hxl : listed.getD x false = false := by
          rcases List.mem_cons.1 hx with rfl | hx
          · exact hi
          · exact (h x hx).1
        cases hy2 : listed.getD y false with
        | false => rfl
        | true => rw [cl y x hy2 ha] at hxl; exact hxl
      · exact h y hy
    · exact h
theorem wp_to {P : Program} {o : Oper} {a F : Act} {w : World} {K KF : Act → World → Prop} {Q : Exit → Act → World → Prop} (he : execOp a.eval o = execOp F.eval o) (h : o.wp P F w KF (fun _ _ _ => False))
    (hK : ∀ v w', KF (F.put o.dst v) w' → K (a.put o.dst v) w') (hno : ∀ d w', ¬ KF ({ F with defers := d :: F.defers }.put o.dst undef) w') : o.wp P a w K Q := by
  unfold Oper.wp at *
  rw [he]
  generalize (execOp F.eval o).run P w = r at *
  cases r with
  | ok n w' =>
    cases n <;> simp only [Oper.upon] at h ⊢ <;>
      first
        | exact hK _ _ h
        | exact (hno _ _ h).elim
        | exact Calls.mono h (fun e w'' he => by
            cases e with
            | returned v => exact hK _ _ he
            | panicked c => exact he.elim
            | outgrown => obtain ⟨_, _, hf⟩ := he; exact hf.elim)
        | exact Rows.mono h (fun _ _ he => hK _ _ he)
  | halt x w' => cases x <;> simp only [Oper.upon] at h ⊢

section
variable {b : Bool} {P : Program} {ops : Array Oper} {sts : List Nat} {F : Nu → Act} {I : Nat → Nu → World → Prop} {Q : Exit → Act → World → Prop} {K : Act → World → Prop}
theorem chk_at (hc : chk b ops = true) {i : Nat} {o : Oper} (ho : ops[i]? = some o) :
    (∀ x ∈ o.looksAt ops, ∀ j, dstOf ops j = some x → aft b ops i j = true) ∧ (∀ j, j < i → ∀ d, o.dst = some d → dstOf ops j ≠ some d) ∧ (b = true → ∀ e ∈ o.after, Region.binds .any e = true → e.on < i) := by
  unfold chk at hc
  rw [Bool.and_eq_true] at hc
  have hlt : i < ops.toList.length := by rw [Array.length_toList]; exact (Array.getElem?_eq_some_iff.1 ho).1
  have h := List.all_eq_true.1 hc.2 i (List.mem_range.2 hlt)
  rw [Array.getElem?_toList, ho] at h
  simp only [Option.map_some, Option.getD_some, Bool.and_eq_true, List.all_eq_true, Bool.or_eq_true, bne_iff_ne, ne_eq, beq_iff_eq, decide_eq_true_eq, Bool.not_eq_true', List.mem_range] at h
  obtain ⟨⟨h1, h2⟩, h3⟩ := h
  refine ⟨fun x hx j hj => ?_, fun j hj d hd => ?_, fun hb e he hbi => ?_⟩
  · have hjl : j < ops.toList.length := by
      unfold dstOf at hj
      cases hn : ops.toList[j]? with
      | none => rw [hn] at hj; cases hj
      | some y => exact (List.getElem?_eq_some_iff.1 hn).1
    exact (h1 x hx j hjl).resolve_left fun hn => hn hj
  · rcases h2 j hj with h | h
    · rw [hd] at h; exact h
    · rw [hd] at h; cases h
  · rcases h3 with h | h
    · rw [hb] at h; cases h
    · rcases h e (by simpa using he) with h | h
      · rw [hbi] at h; cases h
      · exact h
theorem same_ops {listed : Array Bool} {a : Act} {ν : Nu} {i : Nat} {o : Oper} (hc : chk b ops = true) (ho : ops[i]? = some o) (hr : ∀ j, aft b ops i j = true → listed.getD j false = true) (hag : ∀ k, Settled ops listed k → a.tmps[k]? = (F ν).tmps[k]?) :
    execOp a.eval o = execOp (F ν).eval o ∧ Region.wanted o (yielded ops a.tmps) = Region.wanted o (yielded ops (F ν).tmps) := by
  obtain ⟨h1, _, _⟩ := chk_at hc ho
  have hx : ∀ x ∈ o.looksAt ops, a.tmps[x]? = (F ν).tmps[x]? := fun x hx => hag x fun j hj => hr j (h1 x hx j hj)
  constructor
  · have hn : Region.noSelect ops = true := by unfold chk at hc; rw [Bool.and_eq_true] at hc; exact hc.1
    refine execOp_congr o (fun cs s => Region.noSelect_spec hn i o cs s ho) fun x hxo => ?_
    cases x with
    | tmp t =>
      have := hx t (List.mem_append_left _ (List.mem_filterMap.2 ⟨.tmp t, by simpa using hxo, rfl⟩))
      simp only [Act.eval, Array.getD_eq_getD_getElem?, this]
    | const v => rfl
    | global g => rfl
    | func f => rfl
  · unfold Region.wanted
    cases hg : o.guard with
    | none => rfl
    | some gw =>
      obtain ⟨g, want⟩ := gw
      have : yielded ops a.tmps g = yielded ops (F ν).tmps g := by
        unfold yielded
        cases ht : (ops[g]?).bind (·.dst) with
        | none => rfl
        | some t =>
          have := hx t (by simp [Oper.looksAt, hg, ht])
          simp only [Option.bind_some, this]
      simp only [this]
theorem dst_other (hc : chk b ops = true) {i j : Nat} {o : Oper} {k : Nat} (ho : ops[i]? = some o) (hd : o.dst = some k) (hj : dstOf ops j = some k) : j = i := by
  rcases Nat.lt_trichotomy j i with h | h | h
  · exact ((chk_at hc ho).2.1 j h k hd hj).elim
  · exact h
  · unfold dstOf at hj
    rw [Array.getElem?_toList] at hj
    cases hn : ops[j]? with
    | none => rw [hn] at hj; cases hj
    | some y =>
      rw [hn] at hj
      refine ((chk_at hc hn).2.1 i h k hj ?_).elim
      unfold dstOf
      rw [Array.getElem?_toList, ho]; exact hd
theorem getD_of {listed : Array Bool} {i : Nat} (h : listed.getD i true = false) : listed.getD i false = false := by
  simp only [Array.getD_eq_getD_getElem?] at *
  cases hl : listed[i]? with
  | none => rfl
  | some x => rw [hl] at h; exact h
theorem set_getD {listed : Array Bool} {i : Nat} (h : i < listed.size) (j : Nat) : (listed.setIfInBounds i true).getD j false = true ↔ j = i ∨ listed.getD j false = true := by
  by_cases hij : i = j
  · subst hij; simp [h]
  · rw [getD_set_ne false hij]
    exact ⟨Or.inr, fun h => h.resolve_left fun e => hij e.symm⟩
theorem reach_done {listed : Array Bool} (cl : ∀ i j, listed.getD i false = true → aft b ops i j = true → listed.getD j false = true) : ∀ (f i j : Nat), reach b ops f i j = true → (∀ k, aft b ops i k = true → listed.getD k false = true) → listed.getD j false = true
  | 0, _, j, h, hr => hr j h
  | f + 1, i, j, h, hr => by
    unfold reach at h
    rw [Bool.or_eq_true] at h
    rcases h with h | h
    · exact hr j h
    · obtain ⟨k, _, hk⟩ := List.any_eq_true.1 h
      rw [Bool.and_eq_true] at hk
      exact reach_done cl f k j hk.2 fun m hm => cl k m (hr k hk.1) hm
/-- One operation. -/
theorem step {listed : Array Bool} {a : Act} {w : World} {i : Nat} {o : Oper} (hc : chk b ops = true) (hnd : sts.Nodup) (hob : Ob b P ops sts F I i o) (ho : ops[i]? = some o) (hi : listed.getD i true = false) (hr : ∀ j, aft b ops i j = true → listed.getD j false = true)
    (S : St b ops sts F I listed a w) (hK : ∀ a' w', St b ops sts F I (listed.setIfInBounds i true) a' w' → K a' w') : if Region.wanted o (yielded ops a.tmps) = true then o.wp P a w K Q else K (a.put o.dst undef) w := by
  have hlt : i < listed.size := by rw [S.sz]; exact (Array.getElem?_eq_some_iff.1 ho).1
  have hi' := getD_of hi
  have hcl : ∀ x j, (listed.setIfInBounds i true).getD x false = true → aft b ops x j = true → (listed.setIfInBounds i true).getD j false = true := by
    intro x j hx ha
    rw [set_getD hlt] at hx ⊢
    rcases hx with rfl | hx
    · exact .inr (hr j ha)
    · exact .inr (S.cl x j hx ha)
  obtain ⟨ν, s, hdf, hsz, hag, hsl, hst, hI⟩ := S.ag
  obtain ⟨he, hw⟩ := same_ops hc ho hr hag
  have hset : ∀ k, Settled ops (listed.setIfInBounds i true) k → o.dst ≠ some k → Settled ops listed k := by
    intro k hk hne j hj
    rcases (set_getD hlt j).1 (hk j hj) with rfl | h
    · unfold dstOf at hj
      rw [Array.getElem?_toList, ho] at hj
      exact (hne hj).elim
    · exact h
  rw [hw]
  rcases hob with ⟨hns, hob⟩ | ⟨t, ht, htp, hob⟩
  · -- the world stays
    have hst' : ∀ t j, sts[t]? = some j → ((listed.setIfInBounds i true).getD j false = true ↔ t < s) := by
      intro t j hj
      have hne : i ≠ j := by
        rintro rfl
        have := List.mem_of_getElem? hj
        simp [this] at hns
      rw [getD_set_ne false hne]; exact hst t j hj
    have hfin : ∀ v, (F ν).put o.dst v = F ν → K (a.put o.dst v) w := by
      intro v hv
      refine hK _ _ ⟨by rw [Array.size_setIfInBounds]; exact S.sz, hcl, ν, s, by rw [put_defers]; exact hdf, by rw [put_size]; exact hsz, fun k hk => ?_, hsl, hst', hI⟩
      by_cases hd : o.dst = some k
      · rw [hd, put_at a (F ν) k v hsz, ← hd, hv]
      · rw [put_tmps _ _ _ _ hd]; exact hag k (hset k hk hd)
    rcases hob ν with ⟨hwt, v, hv, lo, hi2, hwin, hrun⟩ | ⟨hwt, hv⟩
    · rw [if_pos hwt]
      unfold Oper.wp
      have hls : lo ≤ s ∧ s ≤ hi2 := by
        unfold win at hwin
        rw [Bool.and_eq_true] at hwin
        obtain ⟨h1, h2⟩ := hwin
        constructor
        · rw [Bool.or_eq_true] at h1
          rcases h1 with h1 | h1
          · have : lo = 0 := by simpa using h1
            omega
          · cases hj : sts[lo - 1]? with
            | none => rw [hj] at h1; cases h1
            | some j =>
              rw [hj] at h1
              have := (hst _ j hj).1 (reach_done S.cl 4 i j h1 hr)
              omega
        · rw [Bool.or_eq_true] at h2
          rcases h2 with h2 | h2
          · have := of_decide_eq_true h2
            omega
          · cases hj : sts[hi2]? with
            | none => rw [hj] at h2; cases h2
            | some j =>
              rw [hj] at h2
              rcases Nat.lt_or_ge hi2 s with h | h
              · have := reach_done S.cl 4 j i h2 fun k hk => S.cl j k ((hst _ j hj).2 h) hk
                rw [hi'] at this; cases this
              · exact h
      rw [he, hrun s w hls.1 hls.2 hI, Oper.upon_value]
      exact hfin v hv
    · rw [if_neg (by rw [hwt]; exact Bool.false_ne_true)]
      exact hfin undef hv
  · -- a step
    have hts : t = s := by
      have h1 : ¬ t < s := fun h => by rw [(hst t i ht).2 h] at hi'; cases hi'
      rcases htp with rfl | ⟨j, hj, ha⟩
      · omega
      · have := (hst _ j hj).1 (reach_done S.cl 4 i j ha hr)
        omega
    subst hts
    obtain ⟨hwt, hob⟩ := hob ν
    rw [if_pos hwt]
    refine wp_to he (hob w hI) ?_ ?_
    · rintro v w' ⟨ν', hd, hm, hI'⟩
      have hD := depsL_not (b := b) (ops := ops) S.cl hi' (List.range ops.toList.length) [] (fun _ h => nomatch h)
      have hsz2 : (F ν).tmps.size = (F ν').tmps.size := by
        have := congrArg Array.size hm
        rwa [msk_size, msk_size, put_size] at this
      have htl : t < sts.length := (List.getElem?_eq_some_iff.1 ht).1
      refine hK _ _ ⟨by rw [Array.size_setIfInBounds]; exact S.sz, hcl, ν', t + 1, by rw [put_defers]; exact hdf, by rw [put_size, hsz, hsz2], fun k hk => ?_, htl, ?_, hI'⟩
      · have hk' : ∀ j ∈ deps b ops i, dstOf ops j ≠ some k := by
          intro j hj e
          obtain ⟨h1, h2⟩ := hD j hj
          rcases (set_getD hlt j).1 (hk j e) with h | h
          · exact h2 h
          · rw [h] at h1; cases h1
        have hm' := congrArg (·[k]?) hm
        simp only [msk_get ops _ k _ hk'] at hm'
        rw [← hm']
        by_cases hd2 : o.dst = some k
        · rw [hd2]; exact put_at a (F ν) k v hsz
        · rw [put_tmps _ _ _ _ hd2, put_tmps _ _ _ _ hd2]; exact hag k (hset k hk hd2)
      · intro x j hj
        rw [set_getD hlt, hst x j hj]
        constructor
        · rintro (rfl | h)
          · have : x = t := (List.getElem?_inj (List.getElem?_eq_some_iff.1 hj).1 hnd).1 (hj.trans ht.symm)
            omega
          · omega
        · intro h
          by_cases hx : x = t
          · subst hx
            rw [ht] at hj
            exact .inl (Option.some.inj hj).symm
          · exact .inr (by omega)
    · rintro d w' ⟨ν', hd, _⟩
      rw [put_defers] at hd
      cases hd

theorem done {listed : Array Bool} {a : Act} {w : World} (hF : ∀ ν, (F ν).defers = []) (S : St b ops sts F I listed a w) (hall : ∀ i, i < ops.size → listed.getD i false = true) (hs : ∀ j ∈ sts, j < ops.size) (H : ∀ ν w', I sts.length ν w' → Q .normal (F ν) w') : Q .normal a w := by
  obtain ⟨ν, s, hdf, hsz, hag, hsl, hst, hI⟩ := S.ag
  have hse : s = sts.length := by
    rcases Nat.lt_or_ge s sts.length with h | h
    · have hj := List.getElem?_eq_getElem h
      have := (hst s _ hj).1 (hall _ (hs _ (List.getElem_mem h)))
      omega
    · omega
  have ha : a = F ν := by
    have ht : a.tmps = (F ν).tmps := by
      apply Array.ext_getElem?
      intro k
      refine hag k fun j hj => hall j ?_
      unfold dstOf at hj
      rw [Array.getElem?_toList] at hj
      cases hn : ops[j]? with
      | none => rw [hn] at hj; cases hj
      | some y => exact (Array.getElem?_eq_some_iff.1 hn).1
    have hd := hF ν
    generalize F ν = f at *
    obtain ⟨t1, d1⟩ := a
    obtain ⟨t2, d2⟩ := f
    simp_all
  subst hse
  rw [ha]; exact H ν w hI

/-- How many are not listed. -/
def left (listed : Array Bool) : Nat := listed.toList.countP (! ·)
theorem left_set {listed : Array Bool} {i : Nat} (h : listed.getD i true = false) : left listed = left (listed.setIfInBounds i true) + 1 := by
  unfold left
  rw [Array.toList_setIfInBounds]
  have hlt : i < listed.toList.length := by
    rcases Nat.lt_or_ge i listed.size with h' | h'
    · simpa using h'
    · simp [Array.getElem?_eq_none h'] at h
  have hv : listed.toList[i] = false := by
    simp only [Array.getD_eq_getD_getElem?] at h
    rw [← Array.getElem?_toList, List.getElem?_eq_getElem hlt] at h
    simpa using h
  rw [List.countP_set hlt]
  have hpos : 0 < listed.toList.countP (! ·) := List.countP_pos_iff.2 ⟨_, List.getElem_mem hlt, by simp [hv]⟩
  simp only [hv, Bool.not_false, if_true, Bool.not_true, Bool.false_eq_true, if_false, Nat.add_zero]
  omega
theorem left_zero {listed : Array Bool} (h : left listed = 0) (i : Nat) (hi : i < listed.size) : listed.getD i false = true := by
  unfold left at h
  have := List.countP_eq_zero.1 h (listed[i]) (by simp)
  simp [hi] at this ⊢; exact this
theorem any (hc : chk true ops = true) (hnd : sts.Nodup) (hs : ∀ j ∈ sts, j < ops.size) (hF : ∀ ν, (F ν).defers = []) (hob : All (Ob true P ops sts F I) 0 ops.toList) (H : ∀ ν w', I sts.length ν w' → Q .normal (F ν) w') :
    ∀ fuel listed a w, left listed = fuel → St true ops sts F I listed a w → wpAny P .any ops Q fuel listed a w
  | 0, listed, a, w, hl, S => by
    have hall : ∀ i, i < ops.size → listed.getD i false = true := fun i hi => left_zero hl i (by rw [S.sz]; exact hi)
    refine ⟨?_, done hF S hall hs H⟩
    apply List.eq_nil_iff_forall_not_mem.2
    intro j hj
    obtain ⟨h1, o, ho, _⟩ := mem_ready.1 hj
    have := hall j (Array.getElem?_eq_some_iff.1 ho).1
    rw [getD_of h1] at this; cases this
  | fuel + 1, listed, a, w, hl, S => by
    refine ⟨fun hr => ?_, fun i hi => ?_⟩
    · -- the first that is not listed could come up
      exfalso
      have hex : ∃ i, i < ops.size ∧ listed.getD i true = false := by
        have hp : 0 < listed.toList.countP (! ·) := by unfold left at hl; omega
        obtain ⟨x, hx, hxv⟩ := List.countP_pos_iff.1 hp
        obtain ⟨i, hil, hi⟩ := List.getElem_of_mem hx
        refine ⟨i, by rw [← S.sz]; simpa using hil, ?_⟩
        have : listed[i]? = some x := by rw [← Array.getElem?_toList, List.getElem?_eq_getElem hil, hi]
        simp [Array.getD_eq_getD_getElem?, this]; simpa using hxv
      obtain ⟨i, hi, hm⟩ : ∃ i, (i < ops.size ∧ listed.getD i true = false) ∧ ∀ j, j < i → ¬ (j < ops.size ∧ listed.getD j true = false) := by
        obtain ⟨i, hi⟩ := hex
        induction i using Nat.strongRecOn with
        | _ i ih =>
          by_cases h : ∃ j, j < i ∧ (j < ops.size ∧ listed.getD j true = false)
          · obtain ⟨j, hj, hj2⟩ := h
            exact ih j hj hj2
          · exact ⟨i, hi, fun j hj hj2 => h ⟨j, hj, hj2⟩⟩
      have : i ∈ Region.ready .any ops listed := by
        have ho := Array.getElem?_eq_getElem hi.1
        refine mem_ready.2 ⟨hi.2, ops[i], ho, fun e he hb => ?_⟩
        have hlt := (chk_at hc ho).2.2 rfl e he hb
        have hn := hm e.on hlt
        have hsz : e.on < listed.size := by rw [S.sz]; omega
        cases hx : listed.getD e.on false with
        | true => rfl
        | false =>
          refine (hn ⟨by omega, ?_⟩).elim
          simp only [Array.getD_eq_getD_getElem?, Array.getElem?_eq_getElem hsz] at hx ⊢
          exact hx
      rw [hr] at this; cases this
    · obtain ⟨h1, o, ho, hall⟩ := mem_ready.1 hi
      refine wpOp_step ho fun K hK => ?_
      have h2 := All.get _ hob (i := i) (by rw [Array.getElem?_toList]; exact ho)
      rw [Nat.zero_add] at h2
      refine step hc hnd h2 ho h1 (fun j hj => ?_) S fun a' w' hS => hK _ _ (any hc hnd hs hF hob H fuel _ a' w' (by have := left_set h1; omega) hS)
      unfold aft at hj
      rw [if_pos rfl, Array.getElem?_toList, ho] at hj
      simp only [Option.map_some, Option.getD_some, List.any_eq_true, Bool.and_eq_true, beq_iff_eq] at hj
      obtain ⟨e, he, hb, rfl⟩ := hj
      exact hall e (by simpa using he) hb
/-- The first n. -/
def firsts (n m : Nat) : Array Bool := ((List.range m).map fun i => decide (i < n)).toArray
theorem firsts_get (n m i : Nat) (d : Bool) (h : i < m) : (firsts n m).getD i d = decide (i < n) := by
  simp [firsts, Array.getD_eq_getD_getElem?, h]
theorem firsts_set (n m : Nat) : (firsts n m).setIfInBounds n true = firsts (n + 1) m := by
  apply Array.ext_getElem?
  intro i
  by_cases hi : i < m
  · by_cases h : n = i
    · subst h; simp [firsts, hi]
    · rw [Array.getElem?_setIfInBounds_ne h]
      simp only [firsts, List.getElem?_toArray, List.getElem?_map, List.getElem?_range hi, Option.map_some]
      congr 1
      exact decide_eq_decide.2 ⟨fun _ => by omega, fun _ => by omega⟩
  · rw [Array.getElem?_eq_none (by simp [firsts]; omega), Array.getElem?_eq_none (by simp [firsts]; omega)]
theorem straight (hc : chk false ops = true) (hnd : sts.Nodup) (hs : ∀ j ∈ sts, j < ops.size) (hF : ∀ ν, (F ν).defers = []) (hob : All (Ob false P ops sts F I) 0 ops.toList) (H : ∀ ν w', I sts.length ν w' → Q .normal (F ν) w') :
    ∀ (l : List Oper) n a w, (∀ j, l[j]? = ops[n + j]?) → St false ops sts F I (firsts n ops.size) a w → wpList P ops Q l a w
  | [], n, a, w, hl, S => by
    refine wpList_nil (done hF S (fun i hi => ?_) hs H)
    rw [firsts_get _ _ _ _ hi]
    have hn : ops[n]? = none := by have := hl 0; simpa using this.symm
    have : ops.size ≤ n := by simpa using hn
    simp; omega
  | o :: r, n, a, w, hl, S => by
    have ho : ops[n]? = some o := by have := hl 0; simpa using this.symm
    have hlt := (Array.getElem?_eq_some_iff.1 ho).1
    refine wpList_step fun K hK => ?_
    have h2 := All.get _ hob (i := n) (by rw [Array.getElem?_toList]; exact ho)
    rw [Nat.zero_add] at h2
    refine step hc hnd h2 ho (by rw [firsts_get _ _ _ _ hlt]; simp) (fun j hj => ?_) S fun a' w' hS => hK _ _ ?_
    · clear h2 hob
      unfold aft at hj
      rw [if_neg Bool.false_ne_true] at hj
      have := of_decide_eq_true hj
      rw [firsts_get _ _ _ _ (by omega)]; exact hj
    · rw [firsts_set] at hS
      refine straight hc hnd hs hF hob H r (n + 1) a' w' (fun j => ?_) hS
      have := hl (j + 1)
      rw [List.getElem?_cons_succ] at this
      rw [this, show n + (j + 1) = n + 1 + j by omega]
theorem start {a0 : Act} {w : World} {listed : Array Bool} (hsz : listed.size = ops.size) (hz : ∀ j, listed.getD j false = false) (hd : a0.defers = []) (ν : Nu) (hm : msk ops a0.tmps (List.range ops.toList.length) = msk ops (F ν).tmps (List.range ops.toList.length)) (h0 : I 0 ν w) : St b ops sts F I listed a0 w := by
  refine ⟨hsz, fun i j hi => (by rw [hz i] at hi; cases hi), ν, 0, hd, ?_, fun k hk => ?_, Nat.zero_le _, fun t j _ => (by rw [hz j]; simp), h0⟩
  · have := congrArg Array.size hm
    rwa [msk_size, msk_size] at this
  · have hk' : ∀ j ∈ List.range ops.toList.length, dstOf ops j ≠ some k := fun j _ e => by
      have := hk j e
      rw [hz j] at this; cases this
    have := congrArg (·[k]?) hm
    simp only [msk_get ops _ k _ hk'] at this
    exact this
theorem reps (n j : Nat) : (Array.replicate n false).getD j false = false := by
  simp only [Array.getD_eq_getD_getElem?, Array.getElem?_replicate]
  split <;> rfl
/-- A region that draws its order. -/
theorem dr {id : Nat} {a0 : Act} {w : World} (sts : List Nat) (F : Nu → Act) (I : Nat → Nu → World → Prop) (ν : Nu) (h0 : I 0 ν w.drew) (hob : All (Ob true P ops sts F I) 0 ops.toList) (H : ∀ ν w', I sts.length ν w' → Q .normal (F ν) w')
    (hm : P.follows .mixedOrders = true := by kernel_rfl) (hc : chk true ops = true := by kernel_rfl) (hnd : sts.Nodup := by decide) (hs : ∀ j ∈ sts, j < ops.size := by decide) (hF : ∀ ν, (F ν).defers = [] := by intro ν; kernel_rfl) (hd : a0.defers = [] := by kernel_rfl)
    (hk : msk ops a0.tmps (List.range ops.toList.length) = msk ops (F ν).tmps (List.range ops.toList.length) := by kernel_rfl) : (Code.region id ops true).wp P Q a0 w := by
  refine wp_region_any hm (any hc hnd hs hF hob H _ _ _ _ ?_ (start (by simp) (reps _) hd ν hk h0))
  unfold left
  simp [List.countP_replicate]
/-- A region in its written order. -/
theorem st {id : Nat} {a0 : Act} {w : World} (sts : List Nat) (F : Nu → Act) (I : Nat → Nu → World → Prop) (ν : Nu) (h0 : I 0 ν w) (hob : All (Ob false P ops sts F I) 0 ops.toList) (H : ∀ ν w', I sts.length ν w' → Q .normal (F ν) w')
    (hc : chk false ops = true := by kernel_rfl) (hnd : sts.Nodup := by decide) (hs : ∀ j ∈ sts, j < ops.size := by decide) (hF : ∀ ν, (F ν).defers = [] := by intro ν; kernel_rfl) (hd : a0.defers = [] := by kernel_rfl)
    (hk : msk ops a0.tmps (List.range ops.toList.length) = msk ops (F ν).tmps (List.range ops.toList.length) := by kernel_rfl) : (Code.region id ops false).wp P Q a0 w := by
  refine wp_region_list (straight hc hnd hs hF hob H _ 0 _ _ (fun j => by rw [Array.getElem?_toList, Nat.zero_add]) (start (by simp [firsts]) (fun j => ?_) hd ν hk h0))
  by_cases hj : j < ops.size
  · rw [firsts_get _ _ _ _ hj]; simp
  · simp [firsts, Array.getD_eq_getD_getElem?, hj]
theorem ac {ob : Nat → Oper → Prop} {k : Nat} {o : Oper} {l : List Oper} (h : ob k o) (h2 : All ob (k + 1) l) : All ob k (o :: l) := ⟨h, h2⟩
theorem an {ob : Nat → Oper → Prop} {k : Nat} : All ob k [] := trivial
/-- The frame with what is told laid into it. -/
def putL (a : Act) : List (Nat × Value) → Act
  | [] => a
  | (d, v) :: r => (putL a r).put (some d) v
theorem putL_defers (a : Act) : ∀ l, (putL a l).defers = a.defers
  | [] => rfl
  | (d, v) :: r => (put_defers (putL a r) (some d) v).trans (putL_defers a r)
theorem putL_size (a : Act) : ∀ l, (putL a l).tmps.size = a.tmps.size
  | [] => rfl
  | (d, v) :: r => (put_size (putL a r) (some d) v).trans (putL_size a r)
theorem putL_get (a : Act) (k : Nat) : ∀ l : List (Nat × Value), (∀ p ∈ l, p.1 ≠ k) → (putL a l).tmps[k]? = a.tmps[k]?
  | [], _ => rfl
  | (d, v) :: r, h => (put_tmps (putL a r) (some d) v k fun e => h (d, v) (by simp) (Option.some.inj e)).trans (putL_get a k r fun p hp => h p (by simp [hp]))
def dsts (ops : Array Oper) : List Nat := (List.range ops.toList.length).filterMap fun j => dstOf ops j
theorem putL_start {a0 : Act} {w : World} {listed : Array Bool} {ds : Nu → List (Nat × Value)} (hsz : listed.size = ops.size) (hz : ∀ j, listed.getD j false = false) (hd : a0.defers = []) (ν : Nu) (hks : ∀ ν, ((ds ν).all fun p => (dsts ops).contains p.1) = true) (h0 : I 0 ν w) : St b ops sts (fun ν => putL a0 (ds ν)) I listed a0 w := by
  refine ⟨hsz, fun i j hi => (by rw [hz i] at hi; cases hi), ν, 0, hd, (putL_size _ _).symm, fun k hk => ?_, Nat.zero_le _, fun t j _ => (by rw [hz j]; simp), h0⟩
  refine (putL_get a0 k (ds ν) fun p hp e => ?_).symm
  have h1 := List.all_eq_true.1 (hks ν) p hp
  simp only [List.contains_iff_mem, dsts, List.mem_filterMap] at h1
  obtain ⟨j, _, hj⟩ := h1
  have := hk j (hj.trans (congrArg some e))
  rw [hz j] at this; cases this
/-- A region that draws its order. -/
theorem pd {id : Nat} {a0 : Act} {w : World} (sts : List Nat) (ds : Nu → List (Nat × Value)) (I : Nat → Nu → World → Prop) (ν : Nu) (h0 : I 0 ν w.drew) (hob : All (Ob true P ops sts (fun ν => putL a0 (ds ν)) I) 0 ops.toList) (H : ∀ ν w', I sts.length ν w' → Q .normal (putL a0 (ds ν)) w')
    (hm : P.follows .mixedOrders = true := by kernel_rfl) (hc : chk true ops = true := by kernel_rfl) (hnd : sts.Nodup := by decide) (hs : ∀ j ∈ sts, j < ops.size := by decide) (hd : a0.defers = [] := by kernel_rfl)
    (hks : ∀ ν, ((ds ν).all fun p => (dsts ops).contains p.1) = true := by intro ν; kernel_rfl) : (Code.region id ops true).wp P Q a0 w := by
  refine wp_region_any hm (any hc hnd hs (fun ν => (putL_defers _ _).trans hd) hob H _ _ _ _ ?_ (putL_start (by simp) (reps _) hd ν hks h0))
  unfold left
  simp [List.countP_replicate]
/-- A region in its written order. -/
theorem ps {id : Nat} {a0 : Act} {w : World} (sts : List Nat) (ds : Nu → List (Nat × Value)) (I : Nat → Nu → World → Prop) (ν : Nu) (h0 : I 0 ν w) (hob : All (Ob false P ops sts (fun ν => putL a0 (ds ν)) I) 0 ops.toList) (H : ∀ ν w', I sts.length ν w' → Q .normal (putL a0 (ds ν)) w')
    (hc : chk false ops = true := by kernel_rfl) (hnd : sts.Nodup := by decide) (hs : ∀ j ∈ sts, j < ops.size := by decide) (hd : a0.defers = [] := by kernel_rfl)
    (hks : ∀ ν, ((ds ν).all fun p => (dsts ops).contains p.1) = true := by intro ν; kernel_rfl) : (Code.region id ops false).wp P Q a0 w := by
  refine wp_region_list (straight hc hnd hs (fun ν => (putL_defers _ _).trans hd) hob H _ 0 _ _ (fun j => by rw [Array.getElem?_toList, Nat.zero_add]) (putL_start (by simp [firsts]) (fun j => ?_) hd ν hks h0))
  by_cases hj : j < ops.size
  · rw [firsts_get _ _ _ _ hj]; simp
  · simp [firsts, Array.getD_eq_getD_getElem?, hj]
end
end Rg
end Go.Proofs.Ytkljpidlfddgbaa

/- Blocks of four numbers: the program's (sixteen cells) and the reference's (sixty-four). -/
import Derived.Test.YtbjcfibpiiplaaaWt
import Derived.Test.YtbjcfibpiiplaaaVa
import Derived.Deep.MidRow
namespace Go.Proofs.Ytbjcfibpiiplaaa
open Go.RowKit

/-- The cells of four numbers. -/
def xl (X : Nat → Nat) (c : Nat) : Nat := limb (X (c / 4)) (c % 4)
def xn (X : Nat → Nat) (c : Nat) : Nat := dg (X (c / 16)) (c % 16)
def put4 (X : Nat → Nat) (r v : Nat) (i : Nat) : Nat := if i = r then v else X i
theorem cells48 : (Try.prog.info? 48).map (·.size) = some 16 := by kernel_rfl
theorem cells50 : (Try.prog.info? 50).map (·.size) = some 64 := by kernel_rfl

/-- A part of a row of numbers. -/
theorem part_range {w : World} {b n : Nat} {f : Nat → Nat} {t : TypeId} (h : Blk w b (vals .u64 n f) t) (o m : Nat) (g : Nat → Nat) (hm : o + m ≤ n) (hg : ∀ j, j < m → f (o + j) = g j) : w.rangeAt b o (vals .u64 m g).toList := fun j v hv => by
  have hj : j < m := by
    have := (List.getElem?_eq_some_iff.1 hv).1
    simpa [vals] using this
  rw [h.cell (o + j), vals_get _ _ _ _ (by omega), hg j hj]
  have h2 := vals_get .u64 m g j hj
  rw [← Array.getElem?_toList] at h2
  rw [← h2]; exact hv
theorem part_there {w : World} {b n : Nat} {f : Nat → Nat} {t : TypeId} (h : Blk w b (vals .u64 n f) t) (o m : Nat) (hm : o + m ≤ n) : w.there b o m := fun j hj => by
  refine ⟨?_, h.frozen _⟩
  rw [h.cell (o + j), vals_get _ _ _ _ (by omega)]; rfl
/-- A part that is written. -/
theorem part_set {b n : Nat} {t : TypeId} : ∀ (vs : List Value) (g : Nat → Nat) (o : Nat) (w : World) (f : Nat → Nat), Blk w b (vals .u64 n f) t → (∀ j, j < vs.length → vs[j]? = some (.int .u64 (g j : Nat))) →
    Blk (w.setCells b o vs) b (vals .u64 n (fun c => if o ≤ c ∧ c < o + vs.length then g (c - o) else f c)) t
  | [], g, o, w, f, h, _ => h.cast (vals_congr _ _ _ _ fun c _ => by rw [if_neg (by simp)])
  | v :: r, g, o, w, f, h, hg => by
    have h0 := hg 0 (by simp)
    simp only [List.getElem?_cons_zero, Option.some.injEq] at h0
    subst h0
    have h1 : Blk (w.setCell ⟨b, o, none⟩ (.int .u64 (g 0 : Nat))) b (vals .u64 n (fun j => if j = o then g 0 else f j)) t := (h.set o _).cast (by rw [vals_set])
    refine (part_set r (fun j => g (j + 1)) (o + 1) _ _ h1 (fun j hj => by have := hg (j + 1) (by simp; omega); simpa using this)).cast ?_
    apply vals_congr
    intro c _
    simp only [List.length_cons]
    by_cases e : c = o
    · subst e
      rw [if_neg (by omega), if_pos rfl, if_pos (by omega)]; simp
    · by_cases e2 : o + 1 ≤ c ∧ c < o + 1 + r.length
      · rw [if_pos e2, if_pos (by omega)]; congr 1; omega
      · rw [if_neg e2, if_neg e, if_neg (by omega)]
theorem setCells_other {b b' : Nat} {c : Array Value} {t : TypeId} (hne : b' ≠ b) : ∀ (vs : List Value) (o : Nat) (w : World), Blk w b c t → Blk (w.setCells b' o vs) b c t
  | [], _, _, h => h
  | v :: r, o, _, h => setCells_other hne r (o + 1) _ (h.setOther o v hne)
theorem setCells_low {B b : Nat} {a : World} (hb : B ≤ b) : ∀ (vs : List Value) (o : Nat) (w : World), Below B a w → Below B a (w.setCells b o vs)
  | [], _, _, h => h
  | v :: r, o, _, h => setCells_low hb r (o + 1) _ (h.setCell hb v)

theorem put4_xl (X : Nat → Nat) (r v : Nat) (c : Nat) : (if 4 * r ≤ c ∧ c < 4 * r + 4 then limb v (c - 4 * r) else xl X c) = xl (put4 X r v) c := by
  unfold xl put4
  by_cases h : 4 * r ≤ c ∧ c < 4 * r + 4
  · rw [if_pos h, if_pos (by omega)]; congr 1; omega
  · rw [if_neg h, if_neg (by omega)]
theorem put4_xn (X : Nat → Nat) (r v : Nat) (c : Nat) : (if 16 * r ≤ c ∧ c < 16 * r + 16 then dg v (c - 16 * r) else xn X c) = xn (put4 X r v) c := by
  unfold xn put4
  by_cases h : 16 * r ≤ c ∧ c < 16 * r + 16
  · rw [if_pos h, if_pos (by omega)]; congr 1; omega
  · rw [if_neg h, if_neg (by omega)]
def f4 (x y z : Nat) (i : Nat) : Nat := if i = 0 then x else if i = 1 then y else if i = 2 then z else 0
theorem built48 (x y z : Nat) : Try.prog.built 48 [(0, fe x), (1, fe y), (2, fe z), (3, fe 0)] = some (vals .u64 16 (xl (f4 x y z))) := by kernel_rfl
theorem built50 (x y z : Nat) : Try.prog.built 50 [(0, rn x), (1, rn y), (2, rn z), (3, rn 0)] = some (vals .u64 64 (xn (f4 x y z))) := by kernel_rfl

/-- What a step is: its four cells. -/
def StepAt (W : World) (ad : Addr) (i : Nat) : Prop := ∃ (ea : Addr) (kd : Int) (a b c : Nat), ad.add (i * 4) = ea ∧ ea.block < W.heap.size ∧ a < 256 ∧ b < 256 ∧ c < 256 ∧ W.cell? ea = some (.int .i64 kd) ∧ W.cell? ⟨ea.block, ea.off + 1, none⟩ = some (.int .u8 (a : Nat)) ∧ W.cell? ⟨ea.block, ea.off + 2, none⟩ = some (.int .u8 (b : Nat)) ∧ W.cell? ⟨ea.block, ea.off + 3, none⟩ = some (.int .u8 (c : Nat))
def Steps (W : World) (A : Option Addr) (len : Nat) : Prop := ∀ i, i < len → ∃ ad, A = some ad ∧ StepAt W ad i
theorem cell_below {B : Nat} {w w' : World} (h : Below B w w') (a : Addr) (ha : a.block < B) : w'.cell? a = w.cell? a := by
  unfold World.cell?
  rw [h.block a.block ha]
theorem StepAt.below {w w' : World} {ad : Addr} {i : Nat} (s : StepAt w ad i) (h : Below w.heap.size w w') : StepAt w' ad i := by
  obtain ⟨ea, kd, a, b, c, he, hb, ha, hb', hc, c0, c1, c2, c3⟩ := s
  refine ⟨ea, kd, a, b, c, he, Nat.lt_of_lt_of_le hb h.size, ha, hb', hc, ?_, ?_, ?_, ?_⟩
  · rw [cell_below h _ hb]; exact c0
  · rw [cell_below h ⟨ea.block, ea.off + 1, none⟩ hb]; exact c1
  · rw [cell_below h ⟨ea.block, ea.off + 2, none⟩ hb]; exact c2
  · rw [cell_below h ⟨ea.block, ea.off + 3, none⟩ hb]; exact c3

section
variable {P : Program} {ops : Array Oper} {rest : List Oper} {o : Oper} {a : Act} {w : World} {Q : Exit → Act → World → Prop}
theorem load_x (hgd : o.guard = none) (x : Operand) (ho : o.op = .load 27 x) (px r : Nat) (X : Nat → Nat) (p : Nat) (hx : a.eval x = .pointer (some ⟨px, r * 4, none⟩)) (hB : Blk w px (vals .u64 16 (xl X)) 48) (hr : r < 4) (hp : X r = p)
    (h : wpList Try.prog ops Q rest (a.put o.dst (.agg (lits p))) w) : wpList Try.prog ops Q (o :: rest) a w :=
  wpList_load_mid hgd 27 x ho px (r * 4) hx (lits p).toList _ (part_range hB (r * 4) 4 (limb p) (by omega) (fun j hj => by unfold xl; rw [show (r * 4 + j) / 4 = r by omega, show (r * 4 + j) % 4 = j by omega, hp])) Try.underlying27 rfl cells27 h
theorem load_n (hgd : o.guard = none) (x : Operand) (ho : o.op = .load 31 x) (py r : Nat) (X : Nat → Nat) (p : Nat) (hx : a.eval x = .pointer (some ⟨py, r * 16, none⟩)) (hB : Blk w py (vals .u64 64 (xn X)) 50) (hr : r < 4) (hp : X r = p)
    (h : wpList Try.prog ops Q rest (a.put o.dst (.agg (vals .u64 16 (dg p)))) w) : wpList Try.prog ops Q (o :: rest) a w :=
  wpList_load_mid hgd 31 x ho py (r * 16) hx (vals .u64 16 (dg p)).toList _ (part_range hB (r * 16) 16 (dg p) (by omega) (fun j hj => by unfold xn; rw [show (r * 16 + j) / 16 = r by omega, show (r * 16 + j) % 16 = j by omega, hp])) Try.underlying31 rfl (by rw [Array.length_toList, vals_size]; exact cells31) (by rw [Array.toArray_toList]; exact h)
theorem store_x (hgd : o.guard = none) (x y : Operand) (ho : o.op = .store 27 x y) (px c : Nat) (X : Nat → Nat) (v : Nat) (hx : a.eval x = .pointer (some ⟨px, c * 4, none⟩)) (hy : a.eval y = .agg (lits v)) (hB : Blk w px (vals .u64 16 (xl X)) 48) (hc : c < 4)
    (h : ∀ w', Blk w' px (vals .u64 16 (xl (put4 X c v))) 48 → Sto px w w' → wpList Try.prog ops Q rest (a.put o.dst undef) w') : wpList Try.prog ops Q (o :: rest) a w := by
  refine wpList_store_mid hgd 27 x y ho px (c * 4) (lits v) hx hy (part_there hB (c * 4) 4 (by omega)) cells27 (vals_one .u64 4 (limb v)) (h _ ?_ ⟨fun b cs t hne hb => setCells_other hne _ _ _ hb, fun B a hb hle => setCells_low hle _ _ _ hb⟩)
  refine (part_set (lits v).toList (limb v) (c * 4) w _ hB (fun j hj => ?_)).cast (vals_congr _ _ _ _ fun d _ => ?_)
  · have hj4 : j < 4 := hj
    have h2 := vals_get .u64 4 (limb v) j hj4
    rw [← Array.getElem?_toList] at h2
    exact h2
  · have := put4_xl X c v d
    rw [Nat.mul_comm 4 c] at this
    exact this
theorem store_n (hgd : o.guard = none) (x y : Operand) (ho : o.op = .store 31 x y) (py c : Nat) (X : Nat → Nat) (v : Nat) (hx : a.eval x = .pointer (some ⟨py, c * 16, none⟩)) (hy : a.eval y = .agg (vals .u64 16 (dg v))) (hB : Blk w py (vals .u64 64 (xn X)) 50) (hc : c < 4)
    (h : ∀ w', Blk w' py (vals .u64 64 (xn (put4 X c v))) 50 → Sto py w w' → wpList Try.prog ops Q rest (a.put o.dst undef) w') : wpList Try.prog ops Q (o :: rest) a w := by
  refine wpList_store_mid hgd 31 x y ho py (c * 16) (vals .u64 16 (dg v)) hx hy (by rw [vals_size]; exact part_there hB (c * 16) 16 (by omega)) (by rw [vals_size]; exact cells31) (vals_one _ _ _) (h _ ?_ ⟨fun b cs t hne hb => setCells_other hne _ _ _ hb, fun B a hb hle => setCells_low hle _ _ _ hb⟩)
  have hl : (vals .u64 16 (dg v)).toList.length = 16 := by rw [Array.length_toList, vals_size]
  refine (part_set (vals .u64 16 (dg v)).toList (dg v) (c * 16) w _ hB (fun j hj => ?_)).cast (vals_congr _ _ _ _ fun d _ => ?_)
  · rw [hl] at hj
    have h2 := vals_get .u64 16 (dg v) j hj
    rw [← Array.getElem?_toList] at h2
    exact h2
  · have := put4_xn X c v d
    rw [Nat.mul_comm 16 c] at this
    rw [hl]
    exact this
end
theorem put4_lt (X : Nat → Nat) (r v : Nat) (hX : ∀ i, X i < pP) (hv : v < pP) (i : Nat) : put4 X r v i < pP := by
  unfold put4; split
  · exact hv
  · exact hX i
/-- The cells of one step, in some world. -/
def StepC (W : World) (ea : Addr) (kd : Int) (a b c : Nat) : Prop := ea.block < W.heap.size ∧ W.cell? ea = some (.int .i64 kd) ∧ W.cell? ⟨ea.block, ea.off + 1, none⟩ = some (.int .u8 (a : Nat)) ∧ W.cell? ⟨ea.block, ea.off + 2, none⟩ = some (.int .u8 (b : Nat)) ∧ W.cell? ⟨ea.block, ea.off + 3, none⟩ = some (.int .u8 (c : Nat))
theorem StepC.low {W W' : World} {ea : Addr} {kd : Int} {a b c : Nat} (s : StepC W ea kd a b c) (h : Below W.heap.size W W') : StepC W' ea kd a b c := by
  obtain ⟨hb, c0, c1, c2, c3⟩ := s
  refine ⟨Nat.lt_of_lt_of_le hb h.size, ?_, ?_, ?_, ?_⟩
  · rw [cell_below h _ hb]; exact c0
  · rw [cell_below h ⟨ea.block, ea.off + 1, none⟩ hb]; exact c1
  · rw [cell_below h ⟨ea.block, ea.off + 2, none⟩ hb]; exact c2
  · rw [cell_below h ⟨ea.block, ea.off + 3, none⟩ hb]; exact c3
theorem yields_x {ops : Array Oper} {op : Oper} {a : Act} {w0 : World} {px r p : Nat} {X : Nat → Nat} (hB : Blk w0 px (vals .u64 16 (xl X)) 48) (hr : r < 4) (hp : X r = p) (hw : Region.wanted op (yielded ops a.tmps) = true) (x : Operand) (ho : op.op = .load 27 x)
    (hx : a.eval x = .pointer (some ⟨px, r * 4, none⟩)) : YieldsIf Try.prog ops (fun w' => Below w0.heap.size w0 w') op (.agg (lits p)) a :=
  yieldsIf_load_mid (P := Try.prog) (ops := ops) (S := fun w' => Below w0.heap.size w0 w') hw 27 x ho px (r * 4) hx (lits p).toList _ (fun w h => part_range (hB.call h) (r * 4) 4 (limb p) (by omega) (fun j hj => by unfold xl; rw [show (r * 4 + j) / 4 = r by omega, show (r * 4 + j) % 4 = j by omega, hp])) Try.underlying27 rfl cells27
theorem yields_n {ops : Array Oper} {op : Oper} {a : Act} {w0 : World} {py r p : Nat} {X : Nat → Nat} (hB : Blk w0 py (vals .u64 64 (xn X)) 50) (hr : r < 4) (hp : X r = p) (hw : Region.wanted op (yielded ops a.tmps) = true) (x : Operand) (ho : op.op = .load 31 x)
    (hx : a.eval x = .pointer (some ⟨py, r * 16, none⟩)) : YieldsIf Try.prog ops (fun w' => Below w0.heap.size w0 w') op (.agg (vals .u64 16 (dg p))) a := by
  have := yieldsIf_load_mid (P := Try.prog) (ops := ops) (S := fun w' => Below w0.heap.size w0 w') hw 31 x ho py (r * 16) hx (vals .u64 16 (dg p)).toList _ (fun w h => part_range (hB.call h) (r * 16) 16 (dg p) (by omega) (fun j hj => by unfold xn; rw [show (r * 16 + j) / 16 = r by omega, show (r * 16 + j) % 16 = j by omega, hp])) Try.underlying31 rfl (by rw [Array.length_toList, vals_size]; exact cells31)
  rwa [Array.toArray_toList] at this
theorem cell_n {w0 w : World} {py r p : Nat} {X : Nat → Nat} (hB : Blk w0 py (vals .u64 64 (xn X)) 50) (h : Below w0.heap.size w0 w) (hr : r < 4) (hp : X r = p) : w.cell? ⟨py, r * 16, none⟩ = some (.int .u64 (dg p 0 : Nat)) := by
  rw [(hB.call h).cell (r * 16), vals_get _ _ _ _ (by omega)]
  unfold xn; rw [show r * 16 / 16 = r by omega, show r * 16 % 16 = 0 by omega, hp]
end Go.Proofs.Ytbjcfibpiiplaaa

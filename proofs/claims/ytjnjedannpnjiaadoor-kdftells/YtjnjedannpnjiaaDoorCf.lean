/- Laws of states: how one lies in memory, and what it stands for. -/
import Derived.Test.YtjnjedannpnjiaaDoorCe
import Derived.Laws.CopyRow
namespace Go.Proofs.YtjnjedannpnjiaaDoor
open Go.RowKit

def tab (n : Nat) (g : Nat → Value) : Array Value := ((List.range n).map g).toArray
theorem tab_get (n : Nat) (g : Nat → Value) (k : Nat) (h : k < n) : (tab n g)[k]? = some (g k) := by simp [tab, h]
theorem tab_size (n : Nat) (g : Nat → Value) : (tab n g).size = n := by simp [tab]
theorem tab_ext (c : Array Value) (n : Nat) (g : Nat → Value) (hs : c.size = n) (h : ∀ k, k < n → c[k]? = some (g k)) : c = tab n g := by
  apply Array.ext_getElem?
  intro i
  by_cases hi : i < n
  · rw [h i hi, tab_get n g i hi]
  · rw [Array.getElem?_eq_none (by omega), Array.getElem?_eq_none (by rw [tab_size]; omega)]
theorem tab_congr (n : Nat) (g h : Nat → Value) (e : ∀ j, j < n → g j = h j) : tab n g = tab n h :=
  tab_ext _ n h (tab_size n g) fun k hk => by rw [tab_get n g k hk, e k hk]
theorem tab_set (n : Nat) (g : Nat → Value) (k : Nat) (v : Value) : (tab n g).setIfInBounds k v = tab n (fun j => if j = k then v else g j) := by
  refine tab_ext _ n _ (by simp [tab_size]) fun i hi => ?_
  rw [Array.getElem?_setIfInBounds, tab_size]
  by_cases h : k = i
  · subst h; simp [hi]
  · have : ¬ i = k := fun e => h e.symm
    simp [h, this, tab_get n g i hi]
/-- The cells of a state. -/
def sv (r f : Nat → Nat) (n i : Nat) : Value := if i < 8 then .int .u64 (r i : Nat) else if i < 136 then .int .u8 (f (i - 8) : Nat) else .int .u64 n
def stc (r f : Nat → Nat) (n : Nat) : Array Value := tab 137 (sv r f n)
theorem stc_size (r f : Nat → Nat) (n : Nat) : (stc r f n).size = 137 := tab_size _ _
theorem sv_one (r f : Nat → Nat) (n i : Nat) : (sv r f n i).oneCell' = true := by unfold sv; split; rfl; split <;> rfl
theorem stc_one (r f : Nat → Nat) (n : Nat) : (stc r f n).all (·.oneCell') = true := by
  rw [Array.all_eq_true_iff_forall_mem]
  intro v hv
  simp only [stc, tab, List.mem_toArray, List.mem_map, List.mem_range] at hv
  obtain ⟨i, _, rfl⟩ := hv
  exact sv_one r f n i
theorem stc_long (r f : Nat → Nat) (n : Nat) : (stc r f n)[136]? = some (.int .u64 n) := by rw [stc, tab_get _ _ _ (by omega)]; rfl
theorem stc_r (r f : Nat → Nat) (n i : Nat) (h : i < 8) : (stc r f n)[i]? = some (.int .u64 (r i : Nat)) := by rw [stc, tab_get _ _ _ (by omega), sv, if_pos h]
theorem stc_f (r f : Nat → Nat) (n i : Nat) (h : i < 128) : (stc r f n)[8 + i]? = some (.int .u8 (f i : Nat)) := by
  rw [stc, tab_get _ _ _ (by omega), sv, if_neg (by omega), if_pos (by omega), Nat.add_sub_cancel_left]
theorem stc_set (r f : Nat → Nat) (n m : Nat) : (stc r f n).setIfInBounds 136 (.int .u64 m) = stc r f m := by
  rw [stc, tab_set]
  refine tab_congr _ _ _ fun j hj => ?_
  unfold sv
  by_cases h : j = 136
  · subst h; simp
  · rw [if_neg h]
    by_cases h1 : j < 8
    · rw [if_pos h1, if_pos h1]
    · rw [if_neg h1, if_neg h1, if_pos (by omega), if_pos (by omega)]
/-- Blocks behind stores one by one. -/
def setL (c : Array Value) : Nat → List Value → Array Value
  | _, [] => c
  | o, v :: r => setL (c.setIfInBounds o v) (o + 1) r
theorem setL_size (c : Array Value) : ∀ o vs, (setL c o vs).size = c.size
  | _, [] => rfl
  | o, v :: r => by rw [setL, setL_size]; simp
theorem setL_get : ∀ (vs : List Value) (c : Array Value) (o i : Nat), o + vs.length ≤ c.size → (setL c o vs)[i]? = if o ≤ i ∧ i < o + vs.length then vs[i - o]? else c[i]?
  | [], c, o, i, _ => by rw [setL, if_neg (by simp)]
  | v :: r, c, o, i, h => by
    simp only [List.length_cons] at h ⊢
    rw [setL, setL_get r _ (o + 1) i (by simp; omega)]
    by_cases h1 : o + 1 ≤ i ∧ i < o + 1 + r.length
    · rw [if_pos h1, if_pos (by omega), show i - o = (i - (o + 1)) + 1 by omega, List.getElem?_cons_succ]
    · rw [if_neg h1, Array.getElem?_setIfInBounds]
      by_cases h2 : o = i
      · subst h2
        rw [if_pos rfl, if_pos (by omega), if_pos (by omega), Nat.sub_self]; rfl
      · rw [if_neg h2, if_neg (by omega)]
theorem Blk.setCells {b : Nat} {t : TypeId} : ∀ (vs : List Value) {w : World} {c : Array Value} (o : Nat), Blk w b c t → Blk (w.setCells b o vs) b (setL c o vs) t
  | [], _, _, _, h => h
  | v :: r, _, _, o, h => Blk.setCells r (o + 1) (h.set o v)
theorem sto_cells (b : Nat) : ∀ (vs : List Value) (w : World) (o : Nat), Sto b w (w.setCells b o vs)
  | [], w, _ => Sto.refl b w
  | v :: r, w, o => ((Sto.refl b w).set o v).trans (sto_cells b r _ (o + 1))
theorem arr_toList (n : Nat) (f : Nat → Nat) (i : Nat) : (arr n f).toList[i]? = if i < n then some (.int .u64 (f i : Nat)) else none := by
  rw [Array.getElem?_toList]
  by_cases h : i < n
  · rw [if_pos h, arr_get n f i h]
  · rw [if_neg h, Array.getElem?_eq_none (by rw [arr_size]; omega)]
theorem stc_raise (r f q : Nat → Nat) (n : Nat) : setL (stc r f n) 0 (arr 8 q).toList = stc q f n := by
  refine tab_ext _ 137 _ (by rw [setL_size, stc_size]) fun i hi => ?_
  rw [setL_get _ _ _ _ (by rw [stc_size, Array.length_toList, arr_size]; omega), Array.length_toList, arr_size]
  by_cases h : i < 8
  · rw [if_pos (by omega), arr_toList, if_pos (by omega), sv, if_pos h, Nat.sub_zero]
  · rw [if_neg (by omega), stc, tab_get _ _ _ hi, sv, sv, if_neg h, if_neg h]
theorem Blk.there {w : World} {b : Nat} {c : Array Value} {t : TypeId} (h : Blk w b c t) (o n : Nat) (hn : o + n ≤ c.size) : w.there b o n := fun j hj => by
  refine ⟨?_, h.frozen _⟩
  rw [h.cell, Array.getElem?_eq_getElem (by omega)]; rfl
theorem Blk.rangeR {w : World} {b : Nat} {r f : Nat → Nat} {n : Nat} {t : TypeId} (h : Blk w b (stc r f n) t) : w.rangeAt b 0 (arr 8 r).toList := fun j v hv => by
  rw [arr_toList] at hv
  split at hv
  · rename_i hj
    rw [Nat.zero_add, h.cell, stc_r _ _ _ _ hj]; exact hv
  · cases hv
theorem Blk.rangeF {w : World} {b : Nat} {r f : Nat → Nat} {n : Nat} {t : TypeId} (h : Blk w b (stc r f n) t) : w.rangeAt b 8 (vals .u8 128 f).toList := fun j v hv => by
  rw [Array.getElem?_toList] at hv
  by_cases hj : j < 128
  · rw [vals_get _ _ _ _ hj] at hv
    rw [h.cell, stc_f _ _ _ _ hj]; exact hv
  · rw [Array.getElem?_eq_none (by rw [vals_size]; omega)] at hv; cases hv

/-- What a state stands for. -/
structure Rep (r f : Nat → Nat) (n : Nat) (m : List Nat) : Prop where
  len : n = m.length
  small : n < 2 ^ 61
  rlt : ∀ i, r i < 2 ^ 64
  flt : ∀ i, f i < 256
  head : ∀ i, i < 8 → hd r i = hs m (n / 128) i
  rest : ∀ j, j < n % 128 → f j = m.getD (128 * (n / 128) + j) 0
/-- Bytes laid over others from place p on. -/
def over (f : Nat → Nat) (p : Nat) (l : List Nat) (j : Nat) : Nat := if p ≤ j ∧ j < p + l.length then l.getD (j - p) 0 else f j
theorem over_lt (f : Nat → Nat) (p : Nat) (l : List Nat) (hf : ∀ i, f i < 256) (hl : ∀ x ∈ l, x < 256) (j : Nat) : over f p l j < 256 := by
  unfold over
  split
  · rename_i h
    rw [List.getD_eq_getElem?_getD, List.getElem?_eq_getElem (by omega)]
    exact hl _ (List.getElem_mem _)
  · exact hf j
theorem Rep.copied {r f : Nat → Nat} {n : Nat} {m l : List Nat} (h : Rep r f n m) (hl : ∀ x ∈ l, x < 256) (hc : n % 128 + l.length < 128) (hs' : n + l.length < 2 ^ 61) : Rep r (over f (n % 128) l) (n + l.length) (m ++ l) := by
  have e1 : (n + l.length) / 128 = n / 128 := by omega
  have e2 : (n + l.length) % 128 = n % 128 + l.length := by omega
  have hn := h.len
  refine ⟨by simp [← hn], hs', h.rlt, over_lt _ _ _ h.flt hl, fun i hi => ?_, fun j hj => ?_⟩
  · rw [e1, hs_app m l _ (by omega)]; exact h.head i hi
  · rw [e1]
    rw [e2] at hj
    unfold over
    by_cases hp : n % 128 ≤ j
    · rw [if_pos ⟨hp, by omega⟩, show 128 * (n / 128) + j = m.length + (j - n % 128) by omega, getD_app2]
    · rw [if_neg (by omega), getD_app _ _ _ (by omega)]; exact h.rest j (by omega)
theorem Rep.full {r f : Nat → Nat} {n : Nat} {m l : List Nat} (h : Rep r f n m) (hl : ∀ x ∈ l, x < 256) (hc : n % 128 + l.length = 128) (hs' : n + l.length < 2 ^ 61) :
    Rep (fun i => (r i + out (hd r) (over f (n % 128) l) i) % 2 ^ 64) (over f (n % 128) l) (n + l.length) (m ++ l) := by
  have e1 : (n + l.length) / 128 = n / 128 + 1 := by omega
  have e2 : (n + l.length) % 128 = 0 := by omega
  have hn := h.len
  refine ⟨by simp [← hn], hs', fun i => Nat.mod_lt _ (by omega), over_lt _ _ _ h.flt hl, fun i hi => ?_, fun j hj => by omega⟩
  have hb : ∀ j, j < 128 → over f (n % 128) l j = bk (m ++ l) (n / 128) j := by
    intro j hj
    unfold over bk
    by_cases hp : n % 128 ≤ j
    · rw [if_pos ⟨hp, by omega⟩, show 128 * (n / 128) + j = m.length + (j - n % 128) by omega, getD_app2]
    · rw [if_neg (by omega), getD_app _ _ _ (by omega)]; exact h.rest j (by omega)
  rw [e1]
  show _ = (hs (m ++ l) (n / 128) i + out (hs (m ++ l) (n / 128)) (bk (m ++ l) (n / 128)) i) % 2 ^ 64
  rw [hs_app m l _ (by omega), ← out_congr _ _ _ hb, ← out_congr' (hd r) (hs m (n / 128)) _ h.head, ← h.head i hi]
  show (YtjnjedannpnjiaaDoor.hc i + (r i + out (hd r) (over f (n % 128) l) i) % 2 ^ 64) % 2 ^ 64 = ((YtjnjedannpnjiaaDoor.hc i + r i) % 2 ^ 64 + out (hd r) (over f (n % 128) l) i) % 2 ^ 64
  generalize out (hd r) (over f (n % 128) l) i = q
  omega
/-- A slice that reads as bytes. -/
def Rds (w : World) (A : Option Addr) (l : List Nat) : Prop := l = [] ∨ ∃ a, A = some a ∧ a.block < w.heap.size ∧ ∀ (i : Nat) (x : Nat), l[i]? = some x → w.cell? (a.add i) = some (.int .u8 (x : Nat))
theorem Rds.low {w w' : World} {A : Option Addr} {l : List Nat} (h : Rds w A l) (hb : Below w.heap.size w w') : Rds w' A l := by
  rcases h with h | ⟨a, ha, hlt, hc⟩
  · exact Or.inl h
  · refine Or.inr ⟨a, ha, Nat.lt_of_lt_of_le hlt hb.size, fun i x hx => ?_⟩
    rw [hb.cell (p := a.add i) (by unfold Addr.add; split <;> exact hlt)]
    exact hc i x hx
theorem add_add' (a : Addr) (i j : Nat) : (a.add i).add j = a.add (i + j) := by
  unfold Addr.add
  by_cases hi : i = 0
  · subst hi; simp
  · by_cases hj : j = 0
    · subst hj; simp [hi]
    · simp [hi, hj, Nat.add_assoc]
/-- What is left of a slice behind c elements. -/
def cutA (A : Option Addr) (c cap : Nat) : Option Addr := if cap = c then A else A.map (·.add c)
theorem Rds.cut {w : World} {A : Option Addr} {l : List Nat} (h : Rds w A l) (c cap : Nat) (hc : l.length ≤ cap) : Rds w (cutA A c cap) (l.drop c) := by
  unfold cutA
  by_cases h0 : cap = c
  · left; rw [List.drop_eq_nil_of_le (by omega)]
  · rw [if_neg h0]
    rcases h with h | ⟨a, ha, hlt, hcell⟩
    · left; rw [h]; simp
    · right
      subst ha
      refine ⟨a.add c, rfl, by unfold Addr.add; split <;> exact hlt, fun i x hx => ?_⟩
      rw [add_add']
      rw [List.getElem?_drop] at hx
      exact hcell _ _ hx
theorem run_cut (A : Option Addr) (len cap c : Nat) (hc : c ≤ len) (w : World) : (Instr.slice 23 (.slice A len cap) (some (.int .i64 c)) none none).run Tryd.prog w = .ok (.slice (cutA A c cap) (len - c) (cap - c)) w := by
  rw [run_slice_l w 23 A len cap (by kernel_rfl) .i64 c (by omega) (by omega), show (sizeOf (Tryd.prog.elem 23)).run Tryd.prog w = .ok 1 w by rfl]
  simp [Result.andThen, sliced, cutA]
theorem splice_get (L cs : List Value) (o i : Nat) (h : o + cs.length ≤ L.length) : (L.take o ++ cs ++ L.drop (o + cs.length))[i]? = if o ≤ i ∧ i < o + cs.length then cs[i - o]? else L[i]? := by
  have hm : min o L.length = o := by omega
  by_cases h1 : i < o
  · rw [if_neg (by omega), List.append_assoc, List.getElem?_append_left (by rw [List.length_take, hm]; exact h1), List.getElem?_take, if_pos h1]
  · by_cases h2 : i < o + cs.length
    · rw [if_pos (by omega), List.getElem?_append_left (by rw [List.length_append, List.length_take, hm]; exact h2), List.getElem?_append_right (by rw [List.length_take, hm]; omega), List.length_take, hm]
    · rw [if_neg (by omega), List.getElem?_append_right (by rw [List.length_append, List.length_take, hm]; omega), List.length_append, List.length_take, hm, List.getElem?_drop]
      congr 1; omega
theorem mem_map_one (l : List Nat) (v : Value) (h : v ∈ l.map fun x => Value.int .u8 (x : Nat)) : v.oneCell' = true := by
  obtain ⟨x, _, rfl⟩ := List.mem_map.1 h
  rfl
theorem copy_st (w : World) (N p c : Nat) (r f : Nat → Nat) (n : Nat) (a : Addr) (l : List Nat) (cap : Nat) (B : Blk w N (stc r f n) 47) (hp : p < 128) (hc : c = min l.length (128 - p)) (hl : ∀ (i : Nat) (x : Nat), l[i]? = some x → w.cell? (a.add i) = some (.int .u8 (x : Nat))) (ty : TypeId) :
    (Builtin.copy_ #[23, 23] ty #[.slice (some ⟨N, 8 + p, none⟩) (128 - p) (128 - p), .slice (some a) l.length cap]).run Tryd.prog w = .ok (.int .i64 c) (w.setRow N (stc r (over f p (l.take c)) n)) := by
  have hlen : ((l.take c).map fun x => Value.int .u8 (x : Nat)).length = c := by simp; omega
  have h := run_copy_row (P := Tryd.prog) w 23 23 ty 5 N (8 + p) (128 - p) (128 - p) a l.length cap (stc r f n) 47 ((l.take c).map fun x => Value.int .u8 (x : Nat)) Tryd.underlying23 (by kernel_rfl) B (by rw [hlen]; exact hc) (fun j v hv => by
    rw [List.getElem?_map] at hv
    cases hx : (l.take c)[j]? with
    | none => rw [hx] at hv; cases hv
    | some x =>
      rw [hx] at hv
      obtain rfl := Option.some.inj hv
      rw [List.getElem?_take] at hx
      split at hx
      · exact hl j x hx
      · cases hx) (by rw [hlen, stc_size]; omega) (fun v hv => mem_map_one _ v hv)
  rw [h, hlen]
  have hs := splice_get (stc r f n).toList ((l.take c).map fun x => Value.int .u8 (x : Nat)) (8 + p)
  rw [hlen] at hs
  have e : ((stc r f n).toList.take (8 + p) ++ (l.take c).map (fun x => Value.int .u8 (x : Nat)) ++ (stc r f n).toList.drop (8 + p + c)).toArray = stc r (over f p (l.take c)) n := by
    refine tab_ext _ 137 _ ?_ fun i hi => ?_
    · simp only [List.size_toArray, List.length_append, List.length_take, List.length_drop, Array.length_toList, stc_size, hlen]
      omega
    · rw [List.getElem?_toArray, hs i (by rw [Array.length_toList, stc_size]; omega)]
      have hlc : (l.take c).length = c := by rw [List.length_take]; omega
      by_cases h1 : 8 + p ≤ i ∧ i < 8 + p + c
      · rw [if_pos h1, List.getElem?_map, List.getElem?_eq_getElem (by omega), sv, if_neg (by omega), if_pos (by omega), over, if_pos (by omega), List.getD_eq_getElem?_getD, show i - 8 - p = i - (8 + p) by omega, List.getElem?_eq_getElem (by omega)]
        rfl
      · rw [if_neg h1, Array.getElem?_toList, stc, tab_get _ _ _ hi, sv, sv]
        by_cases h2 : i < 8
        · rw [if_pos h2, if_pos h2]
        · rw [if_neg h2, if_neg h2]
          by_cases h3 : i < 136
          · rw [if_pos h3, if_pos h3, over, if_neg (by omega)]
          · rw [if_neg h3, if_neg h3]
  rw [e]
  rfl
end Go.Proofs.YtjnjedannpnjiaaDoor

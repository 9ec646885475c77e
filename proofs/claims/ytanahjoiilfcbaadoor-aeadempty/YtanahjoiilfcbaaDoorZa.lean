/- Slices that grow, lists of slices, calls that answer with rows of their own. No conditions but those that each names. -/
import Derived.Test.YtanahjoiilfcbaaDoorLq
import Derived.Test.YtanahjoiilfcbaaDoorAp
import Derived.Test.YtanahjoiilfcbaaDoorCrd
namespace Go.Proofs.YtanahjoiilfcbaaDoor.E
set_option maxRecDepth 100000
open Go.RowKit Rg

theorem rds_of {w : World} {A : Option Addr} {n : Nat} {f : Nat → Nat} (h : Rd w A n f) : C.Rds w A (C.li n f) := by
  rcases h with rfl | ⟨a, ha, hb, hc⟩
  · left; rfl
  · refine Or.inr ⟨a, ha, hb, fun i x hx => ?_⟩
    have hi : i < n := by
      have := (List.getElem?_eq_some_iff.1 hx).1
      rwa [C.li_len] at this
    have e : x = f i := by
      simp [C.li, hi] at hx; exact hx.symm
    rw [e]; exact hc i hi
theorem ge_li {n i : Nat} (f : Nat → Nat) (hi : i < n) : C.ge (C.li n f) i = f i := by
  unfold C.ge C.li
  simp [hi]
theorem src_rd {w : World} {A : Option Addr} {n : Nat} {f : Nat → Nat} (c : Nat) (h : Rd w A n f) : Src Tryd.prog 1 25 (.slice A n c) n ((List.range n).map fun i => Value.int .u8 ((f i : Nat) : Int)) w := by
  have := C.src_rds c (rds_of h)
  rw [C.bv8_len, C.li_len] at this
  have e : C.bv8 (C.li n f) = (List.range n).map fun i => Value.int .u8 ((f i : Nat) : Int) := by simp [C.bv8, C.li]
  rw [e] at this
  exact this
theorem rd_blk {w : World} {q n N : Nat} {t : TypeId} {f : Nat → Nat} (h : Blk w q (vals .u8 N (C.mx f n)) t) (hn : n ≤ N) : Rd w (some ⟨q, 0, none⟩) n f :=
  (rd_row (o := 0) (m := n) h (by omega)).congr fun i hi => by rw [Nat.zero_add]; unfold C.mx; rw [if_pos hi]
theorem rd_vals {w : World} {q n : Nat} {t : TypeId} {f : Nat → Nat} (h : Blk w q (vals .u8 n f) t) : Rd w (some ⟨q, 0, none⟩) n f :=
  (rd_row (o := 0) (m := n) h (by omega)).congr fun i _ => by rw [Nat.zero_add]
theorem mx_all (n : Nat) (f : Nat → Nat) : vals .u8 n (C.mx f n) = vals .u8 n f := vals_congr _ _ _ _ fun j hj => by unfold C.mx; rw [if_pos hj]
theorem mx_congr {N n : Nat} {f g : Nat → Nat} (h : ∀ i, i < n → f i = g i) : vals .u8 N (C.mx f n) = vals .u8 N (C.mx g n) := vals_congr _ _ _ _ fun j _ => by
  unfold C.mx
  by_cases hj : j < n
  · rw [if_pos hj, if_pos hj]; exact h j hj
  · rw [if_neg hj, if_neg hj]
theorem _root_.Go.Proofs.YtanahjoiilfcbaaDoor.Own.join {u w1 w2 : World} {L L' : List Row} (h : Own u w1 L) (h' : Own w1 w2 L') : Own u w2 (L ++ L') := by
  refine ⟨h.low.trans (h'.low.mono h.low.size), fun r hr => ?_, fun r hr => ?_, fun r hr => ?_, ?_⟩
  · exact (List.mem_append.1 hr).elim (fun hr => (h.blk r hr).call h'.low) (h'.blk r)
  · exact (List.mem_append.1 hr).elim (h.new r) (fun hr => Nat.le_trans h.low.size (h'.new r hr))
  · exact (List.mem_append.1 hr).elim (h.fit r) (h'.fit r)
  · rw [List.map_append]
    refine List.nodup_append.2 ⟨h.dist, h'.dist, fun a ha b hb => ?_⟩
    obtain ⟨x, hx, rfl⟩ := List.mem_map.1 ha
    obtain ⟨y, hy, rfl⟩ := List.mem_map.1 hb
    have h1 := h'.new y hy
    have h2 := (h.blk x hx).lt
    omega
theorem at_end (L : List Row) (r : Row) : (L ++ [r])[L.length]? = some r := by simp
theorem set_end (L : List Row) (r r' : Row) : (L ++ [r]).set L.length r' = L ++ [r'] := by simp
/-- n bytes in a row of one's own, the last one, with room for more. -/
def Rw (u w : World) (L : List Row) (n : Nat) (f : Nat → Nat) (v : Value) : Prop := ∃ g d, v = .slice (some ⟨g, 0, none⟩) n (n + d) ∧ Own u w (L ++ [(g, vals .u8 (n + d) (C.mx f n), 5)])
/-- The same, or none at all. -/
def Gr (u w : World) (L : List Row) (n : Nat) (f : Nat → Nat) (v : Value) : Prop := (n = 0 ∧ v = .slice none 0 0 ∧ Own u w L) ∨ Rw u w L n f v
theorem Rw.call {u w w' : World} {L : List Row} {n : Nat} {f : Nat → Nat} {v : Value} (h : Rw u w L n f v) (hb : Below w.heap.size w w') : Rw u w' L n f v := by
  obtain ⟨g, d, hv, hO⟩ := h
  exact ⟨g, d, hv, hO.call hb⟩
theorem Gr.call {u w w' : World} {L : List Row} {n : Nat} {f : Nat → Nat} {v : Value} (h : Gr u w L n f v) (hb : Below w.heap.size w w') : Gr u w' L n f v := by
  rcases h with ⟨h0, hv, hO⟩ | h
  · exact .inl ⟨h0, hv, hO.call hb⟩
  · exact .inr (h.call hb)
theorem Rw.congr {u w : World} {L : List Row} {n : Nat} {f g : Nat → Nat} {v : Value} (h : Rw u w L n f v) (e : ∀ i, i < n → f i = g i) : Rw u w L n g v := by
  obtain ⟨q, d, hv, hO⟩ := h
  exact ⟨q, d, hv, by rw [← mx_congr e]; exact hO⟩
theorem Gr.congr {u w : World} {L : List Row} {n : Nat} {f g : Nat → Nat} {v : Value} (h : Gr u w L n f v) (e : ∀ i, i < n → f i = g i) : Gr u w L n g v := h.imp id fun h => h.congr e
theorem Gr.low {u w : World} {L : List Row} {n : Nat} {f : Nat → Nat} {v : Value} (h : Gr u w L n f v) : Below u.heap.size u w := by
  rcases h with ⟨_, _, hO⟩ | ⟨_, _, _, hO⟩ <;> exact hO.low
theorem rw_app {u w : World} {L : List Row} {n m : Nat} {f : Nat → Nat} {v x : Value} {news : List Value} (h : Rw u w L n f v) (hs : Src Tryd.prog 1 25 x news.length news w) (hn : news = (List.range m).map fun i => Value.int .u8 ((f (n + i) : Nat) : Int)) (hb : n + m ≤ 2 ^ 30) :
    ∃ g d w', (∀ ty, (Builtin.append_ #[25, 25] ty #[v, x]).run Tryd.prog w = .ok (.slice (some ⟨g, 0, none⟩) (n + m) (n + m + d)) w') ∧ Own u w' (L ++ [(g, vals .u8 (n + m + d) (C.mx f (n + m)), 5)]) := by
  obtain ⟨g, d, rfl, hO⟩ := h
  obtain ⟨g', d', w', hr, hO'⟩ := C.app_row hO (at_end L _) hs hn (Nat.le_add_right _ _) hb
  rw [set_end] at hO'
  exact ⟨g', d', w', hr, hO'⟩
theorem gr_app {u w : World} {L : List Row} {n m : Nat} {f : Nat → Nat} {v x : Value} {news : List Value} (h : Gr u w L n f v) (h0 : 0 < m) (hs : Src Tryd.prog 1 25 x news.length news w) (hn : news = (List.range m).map fun i => Value.int .u8 ((f (n + i) : Nat) : Int)) (hb : n + m ≤ 2 ^ 30) :
    ∃ g d w', (∀ ty, (Builtin.append_ #[25, 25] ty #[v, x]).run Tryd.prog w = .ok (.slice (some ⟨g, 0, none⟩) (n + m) (n + m + d)) w') ∧ Own u w' (L ++ [(g, vals .u8 (n + m + d) (C.mx f (n + m)), 5)]) := by
  rcases h with ⟨rfl, rfl, hO⟩ | h
  · exact C.app_nil hO hs hn h0 (by omega)
  · exact rw_app h hs hn hb
/-- A call that answers with a slice that reads so. -/
def RetV (f : FuncId) (args : Array Value) (w : World) (k : Value → Value) (n : Nat) (g : Nat → Nat) : Prop := Calls Tryd.prog f args w fun e w' => ∃ S c, e = .returned (k (.slice S n c)) ∧ Below w.heap.size w w' ∧ n ≤ c ∧ Rd w' S n g
/-- A call that answers with a slice of a row of its own. -/
def RetW (f : FuncId) (args : Array Value) (w : World) (k : Value → Value) (n : Nat) (g : Nat → Nat) : Prop := Calls Tryd.prog f args w fun e w' => ∃ q d, e = .returned (k (.slice (some ⟨q, 0, none⟩) n (n + d))) ∧ Own w w' [(q, vals .u8 (n + d) (C.mx g n), 5)]
theorem RetW.retV {f : FuncId} {args : Array Value} {w : World} {k : Value → Value} {n : Nat} {g : Nat → Nat} (h : RetW f args w k n g) : RetV f args w k n g := by
  refine Calls.mono h fun e w' hh => ?_
  obtain ⟨q, d, he, hO⟩ := hh
  exact ⟨_, _, he, hO.low, Nat.le_add_right _ _, rd_blk (hO.row 0 rfl) (Nat.le_add_right _ _)⟩
/-- A call that answers with rows of its own. -/
def RetZ (f : FuncId) (args : Array Value) (w : World) (v : (Nat → Nat) → Value) (R : (Nat → Nat) → List Row) : Prop := Calls Tryd.prog f args w fun e w' => ∃ z, e = .returned (v z) ∧ Own w w' (R z)
def upz (ν : Nu) (B : Nat) (z : Nat → Nat) : Nu := fun k => if B ≤ k then z (k - B) else ν k
section
variable {b : Bool} {ops : Array Oper} {sts : List Nat} {F : Nu → Act} {u : World} {L : Nat → Nu → List Row} {i : Nat} {o : Oper}
theorem sz (t B : Nat) (f : FuncId) (args : Nu → Array Value) (v : (Nat → Nat) → Value) (R : (Nat → Nat) → List Row) (hc : ∀ ν w, Own u w (L t ν) → RetZ f (args ν) w v R) (hL : ∀ ν z, L (t + 1) (upz ν B z) = L t ν ++ R z := by intro ν z; kernel_rfl) (hm : ∀ ν z, msk ops ((F ν).put o.dst (v z)).tmps (deps b ops i) = msk ops (F (upz ν B z)).tmps (deps b ops i) := by intro ν z; kernel_rfl) (hrun : ∀ ν w, (execOp (F ν).eval o).run Tryd.prog w = .ok (.enter f (args ν)) w := by intro ν w; kernel_rfl)
    (hp : plc b ops sts i t = true := by kernel_rfl) (hw : ∀ ν, Region.wanted o (yielded ops (F ν).tmps) = true := by intro ν; kernel_rfl) (hF : ∀ ν, (F ν).defers = [] := by intro ν; kernel_rfl) : Ob b Tryd.prog ops sts F (OI u L) i o := by
  refine .inr ⟨t, (plc_spec hp).1, (plc_spec hp).2, fun ν => ⟨hw ν, fun w hO => ?_⟩⟩
  unfold Oper.wp
  rw [hrun ν w, Oper.upon_enter]
  refine (hc ν w hO).mono fun e w' hh => ?_
  obtain ⟨z, rfl, hO'⟩ := hh
  refine ⟨upz ν B z, by rw [put_defers]; exact hF ν, hm ν z, ?_⟩
  show Own u w' (L (t + 1) (upz ν B z))
  rw [hL]
  exact Own.join hO hO'
end
section
variable {o o2 : Oper} {a : Act} {u w : World} {L : List Row} {Q : Exit → Act → World → Prop} {ops : Array Oper} {rest : List Oper}
theorem g_fr (a' : Act) (h : WL ops Q rest a' w) (e : a = a' := by kernel_rfl) : WL ops Q rest a w := e ▸ h
/-- A call, by whatever it tells. -/
theorem g_any {P : Value → World → Prop} (f : FuncId) (args : Array Value) (hc : Calls Tryd.prog f args w fun e w' => ∃ v, e = .returned v ∧ P v w') (h : ∀ v w', P v w' → WL ops Q rest (a.put o.dst v) w') (hrun : (execOp a.eval o).run Tryd.prog w = .ok (.enter f args) w := by kernel_rfl) (hg : Region.wanted o (yielded ops a.tmps) = true := by kernel_rfl) : WL ops Q (o :: rest) a w :=
  ⟨wpList_step fun K hK => by
    rw [if_pos hg]
    unfold Oper.wp
    rw [hrun, Oper.upon_enter]
    refine hc.mono fun e w' hh => ?_
    obtain ⟨v, rfl, hP⟩ := hh
    exact hK _ _ (h v w' hP).out⟩
theorem g_v (hO : Own u w L) (f : FuncId) (args : Array Value) (k : Value → Value) (n : Nat) (g : Nat → Nat) (hc : RetV f args w k n g) (h : ∀ S c w', Below w.heap.size w w' → Own u w' L → n ≤ c → Rd w' S n g → WL ops Q rest (a.put o.dst (k (.slice S n c))) w') (hrun : (execOp a.eval o).run Tryd.prog w = .ok (.enter f args) w := by kernel_rfl) (hg : Region.wanted o (yielded ops a.tmps) = true := by kernel_rfl) : WL ops Q (o :: rest) a w :=
  g_any (P := fun v w' => ∃ S c, v = k (.slice S n c) ∧ Below w.heap.size w w' ∧ n ≤ c ∧ Rd w' S n g) f args (Calls.mono hc fun e w' hh => by
    obtain ⟨S, c, he, h1, h2, h3⟩ := hh
    exact ⟨_, he, S, c, rfl, h1, h2, h3⟩) (fun v w' hP => by
    obtain ⟨S, c, rfl, h1, h2, h3⟩ := hP
    exact h S c w' h1 (hO.call h1) h2 h3) hrun hg
theorem g_w (hO : Own u w L) (f : FuncId) (args : Array Value) (k : Value → Value) (n : Nat) (g : Nat → Nat) (hc : RetW f args w k n g) (h : ∀ q d w', Below w.heap.size w w' → Own u w' (L ++ [(q, vals .u8 (n + d) (C.mx g n), 5)]) → WL ops Q rest (a.put o.dst (k (.slice (some ⟨q, 0, none⟩) n (n + d)))) w') (hrun : (execOp a.eval o).run Tryd.prog w = .ok (.enter f args) w := by kernel_rfl) (hg : Region.wanted o (yielded ops a.tmps) = true := by kernel_rfl) : WL ops Q (o :: rest) a w :=
  g_any (P := fun v w' => ∃ q d, v = k (.slice (some ⟨q, 0, none⟩) n (n + d)) ∧ Own w w' [(q, vals .u8 (n + d) (C.mx g n), 5)]) f args (Calls.mono hc fun e w' hh => by
    obtain ⟨q, d, he, h1⟩ := hh
    exact ⟨_, he, q, d, rfl, h1⟩) (fun v w' hP => by
    obtain ⟨q, d, rfl, h1⟩ := hP
    exact h q d w' h1.low (hO.join h1)) hrun hg
/-- append of what is read to a row of one's own. -/
theorem g_apr {n m c : Nat} {f h' : Nat → Nat} {A : Option Addr} (v : Value) (hR : Rw u w L n f v) (hS : Rd w A m h') (hb : n + m ≤ 2 ^ 30) (g : Nat → Nat) (e1 : ∀ i, i < n → f i = g i) (e2 : ∀ i, i < m → h' i = g (n + i)) (h : ∀ q d w', Below u.heap.size u w' → Own u w' (L ++ [(q, vals .u8 (n + m + d) (C.mx g (n + m)), 5)]) → WL ops Q rest (a.put o.dst (.slice (some ⟨q, 0, none⟩) (n + m) (n + m + d))) w') {x y : Operand}
    (ho : o.op = .call { callee := .builtin .append, args := #[x, y], argTypes := #[25, 25] } := by rfl) (hx : a.eval x = v := by kernel_rfl) (hy : a.eval y = .slice A m c := by kernel_rfl) (hg : Region.wanted o (yielded ops a.tmps) = true := by kernel_rfl) : WL ops Q (o :: rest) a w := by
  have hs := src_rd c hS
  have hl : ((List.range m).map fun i => Value.int .u8 ((h' i : Nat) : Int)).length = m := by simp
  obtain ⟨q, d, w', hr, hO'⟩ := rw_app (hR.congr e1) (by rw [hl]; exact hs) (List.map_congr_left fun i hi => by rw [e2 i (List.mem_range.1 hi)]) hb
  refine g_run (.slice (some ⟨q, 0, none⟩) (n + m) (n + m + d)) w' ?_ (h q d w' hO'.low hO') hg
  simp [execOp, ho, resolve, invoke, builtin, hx, hy, hr, Result.andThen]
/-- A byte appended. -/
theorem g_ap1 {n x0 : Nat} {f : Nat → Nat} (v : Value) (hG : Gr u w L n f v) (b : Nat) (hb : n ≤ 2 ^ 29) (g : Nat → Nat) (e1 : ∀ i, i < n → f i = g i) (e2 : g n = b) (h : ∀ q r d w', Own u w' (L ++ [(q, vals .u8 (n + 1 + d) (C.mx g (n + 1)), 5)]) → WL ops Q rest ((a.put (some x0) (.slice (some ⟨r, 0, none⟩) 1 1)).put o2.dst (.slice (some ⟨q, 0, none⟩) (n + 1) (n + 1 + d))) w') {p x : Operand}
    (hd : o.dst = some x0 := by rfl) (ho : o.op = .buildSlice 25 1 #[(0, p)] := by rfl) (hp : a.eval p = Nv .u8 b := by kernel_rfl) (ho2 : o2.op = .call { callee := .builtin .append, args := #[x, .tmp x0], argTypes := #[25, 25] } := by rfl) (hx : ∀ r, (a.put (some x0) (.slice (some ⟨r, 0, none⟩) 1 1)).eval x = v := by intro r; kernel_rfl) (hy : ∀ r, (a.put (some x0) (.slice (some ⟨r, 0, none⟩) 1 1)).eval (.tmp x0) = .slice (some ⟨r, 0, none⟩) 1 1 := by intro r; kernel_rfl)
    (hg : Region.wanted o (yielded ops a.tmps) = true := by kernel_rfl) (hg2 : ∀ r, Region.wanted o2 (yielded ops (a.put (some x0) (.slice (some ⟨r, 0, none⟩) 1 1)).tmps) = true := by intro r; kernel_rfl) : WL ops Q (o :: o2 :: rest) a w := by
  have hbl : Below w.heap.size w (w.alloc (.cells (vals .u8 1 fun _ => b) 5)) := (Below.refl _ w).alloc (Nat.le_refl _) _
  have hG' := (hG.congr e1).call hbl
  have hS : Rd (w.alloc (.cells (vals .u8 1 fun _ => b) 5)) (some ⟨w.heap.size, 0, none⟩) 1 (fun _ => b) := rd_vals (Blk.new w _ 5)
  have hl : ((List.range 1).map fun _ => Value.int .u8 ((b : Nat) : Int)).length = 1 := rfl
  obtain ⟨q, d, w', hr, hO'⟩ := gr_app (m := 1) (x := .slice (some ⟨w.heap.size, 0, none⟩) 1 1) hG' (by decide) (by rw [hl]; exact src_rd 1 hS) (by simp [e2]) (by omega)
  refine g_run _ _ (C.b_bs1 b ho hp w) ?_ hg
  rw [hd]
  refine g_run (.slice (some ⟨q, 0, none⟩) (n + 1) (n + 1 + d)) w' ?_ (h q _ d w' hO') (hg2 _)
  simp [execOp, ho2, resolve, invoke, builtin, hx, hy, hr, Result.andThen]
end
end Go.Proofs.YtanahjoiilfcbaaDoor.E

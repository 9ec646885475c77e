/- Walks of the reference: SumBy. -/
import Derived.Test.YtjnjedannpnjiaaDoorRb
import Derived.Test.YtjnjedannpnjiaaDoorDa
namespace Go.Proofs.YtjnjedannpnjiaaDoor
open Go.RowKit

/-- Bytes as cells. -/
def bv8 (l : List Nat) : List Value := l.map fun x => Value.int .u8 (x : Nat)
theorem bv8_len (l : List Nat) : (bv8 l).length = l.length := by simp [bv8]
theorem bv8_app (k l : List Nat) : bv8 (k ++ l) = bv8 k ++ bv8 l := by simp [bv8]
theorem bv8_get (l : List Nat) (i : Nat) (v : Value) (h : (bv8 l)[i]? = some v) : ∃ x, l[i]? = some x ∧ v = .int .u8 (x : Nat) := by
  unfold bv8 at h
  rw [List.getElem?_map] at h
  cases hx : l[i]? with
  | none => rw [hx] at h; cases h
  | some x => rw [hx] at h; exact ⟨x, rfl, (Option.some.inj h).symm⟩
theorem src_rds {w : World} {A : Option Addr} {l : List Nat} (cap : Nat) (h : Rds w A l) : Src Tryd.prog 1 23 (.slice A l.length cap) (bv8 l).length (bv8 l) w := by
  rw [bv8_len]
  cases A with
  | none =>
    rcases h with h | ⟨a, ha, _⟩
    · subst h; exact Src.ofNil w Tryd.underlying23 cap
    · cases ha
  | some a =>
    refine Src.ofSlice w Tryd.underlying23 a l.length cap (bv8 l) (by rw [bv8_len, Nat.mul_one]) (fun j u hu => ?_) (fun u hu => ?_)
    · obtain ⟨x, hx, rfl⟩ := bv8_get l j u hu
      rcases h with h | ⟨a', ha, _, hc⟩
      · rw [h] at hx; cases hx
      · obtain rfl := Option.some.inj ha; exact hc j x hx
    · exact mem_map_one l u hu
theorem own_rds {w : World} {B : Nat} {v : Value} {l : List Nat} (h : Own w B 5 v (bv8 l)) : ∃ A cap, v = .slice A l.length cap ∧ l.length ≤ cap ∧ Rds w A l ∧ (A = none → cap = 0) := by
  obtain ⟨A, cap, cells, rfl, h2, h3, h4, h5⟩ := h
  rw [bv8_len] at h2 ⊢
  refine ⟨A, cap, rfl, h2, ?_, ?_⟩
  · rcases h5 with ⟨g, rfl, hg, hB⟩ | ⟨rfl, rfl⟩
    · exact rds_blk hB l (fun i x hx => h4 i _ (by unfold bv8; rw [List.getElem?_map, hx]; rfl))
    · left; exact List.eq_nil_of_length_eq_zero (by omega)
  · intro hA
    rcases h5 with ⟨g, rfl, _⟩ | ⟨_, h0⟩
    · cases hA
    · exact h0
theorem app_bytes {B : Nat} {w : World} {A : Option Addr} {cap : Nat} {vs : List Nat} (h : Own w B 5 (.slice A vs.length cap) (bv8 vs)) (hBw : B ≤ w.heap.size) (A2 : Option Addr) (l : List Nat) (cap2 : Nat) (hs : Rds w A2 l) (hn : 0 < l.length ∨ A.isSome = true) (hl : vs.length + l.length ≤ 2 ^ 40) :
    ∃ A' cap' w', (∀ ty, (Builtin.append_ #[23, 23] ty #[.slice A vs.length cap, .slice A2 l.length cap2]).run Tryd.prog w = .ok (.slice A' (vs.length + l.length) cap') w') ∧ Own w' B 5 (.slice A' (vs ++ l).length cap') (bv8 (vs ++ l)) ∧ w.heap.size ≤ w'.heap.size ∧ ∀ a, Below B a w → Below B a w' := by
  obtain ⟨v', w', hr, ho, hsz, hlo⟩ := own_append Tryd.underlying23 (by kernel_rfl) (by kernel_rfl) (by kernel_rfl) h hBw (.slice A2 l.length cap2) (bv8 l) (src_rds cap2 hs) (by
    rcases hn with hn | hn
    · left; rw [bv8_len]; exact hn
    · right
      cases A with
      | none => cases hn
      | some a => exact ⟨a, _, _, rfl⟩) (by rw [bv8_len, bv8_len]; exact hl)
  rw [← bv8_app] at ho
  obtain ⟨A', cap', rfl, _⟩ := own_rds ho
  rw [List.length_append] at hr
  exact ⟨A', cap', w', hr, ho, hsz, hlo⟩
theorem rds_lit {w : World} {x : Nat} : Rds (w.alloc (.cells #[.int .u8 (x : Nat)] 5)) (some ⟨w.heap.size, 0, none⟩) [x] := rds_blk (Blk.new w _ _) _ fun i y hy => by
  rcases i with _ | i
  · obtain rfl := Option.some.inj hy; rfl
  · cases hy
theorem run_head (A : Option Addr) (len cap : Nat) (hc : 128 ≤ cap) (w : World) : (Instr.slice 23 (.slice A len cap) none (some (.int .i64 128)) none).run Tryd.prog w = .ok (.slice A 128 cap) w := by
  rw [run_slice_h w 23 A len cap (by kernel_rfl) .i64 128 (by omega) (by omega), show (sizeOf (Tryd.prog.elem 23)).run Tryd.prog w = .ok 1 w by rfl]
  have e : A.map (fun a => a.add 0) = A := by cases A <;> simp [Addr.add]
  simp [Result.andThen, sliced, e]
theorem take_succ' (l : List Nat) (c x : Nat) (h : l[c]? = some x) : l.take (c + 1) = l.take c ++ [x] := by rw [List.take_add_one, h]; rfl
theorem pd_zero (n c : Nat) (h0 : 1 ≤ c) (h1 : c < 1 + pz n + 8) : (pd n)[c]? = some 0 := by
  obtain ⟨d, rfl⟩ : ∃ d, c = d + 1 := ⟨c - 1, by omega⟩
  unfold pd
  rw [List.getElem?_cons_succ, List.getElem?_append_left (by simp; omega), List.getElem?_replicate, if_pos (by omega)]
theorem pd_word (n j : Nat) (h : j < 8) : (pd n)[1 + pz n + 8 + j]? = some (wb (8 * n) j) := by
  unfold pd
  rw [show 1 + pz n + 8 + j = (pz n + 8 + j) + 1 by omega, List.getElem?_cons_succ, List.getElem?_append_right (by simp), List.length_replicate, List.getElem?_map, show pz n + 8 + j - (pz n + 8) = j by omega, List.getElem?_range h]
  rfl
theorem pd_eight (n : Nat) : (pd n).take (1 + pz n + 8) = (pd n).take (1 + pz n) ++ [0, 0, 0, 0, 0, 0, 0, 0] := by
  have h := fun c h0 h1 => take_succ' (pd n) c 0 (pd_zero n c h0 h1)
  rw [show 1 + pz n + 8 = (1 + pz n + 7) + 1 from rfl, h _ (by omega) (by omega), show 1 + pz n + 7 = (1 + pz n + 6) + 1 from rfl, h _ (by omega) (by omega), show 1 + pz n + 6 = (1 + pz n + 5) + 1 from rfl, h _ (by omega) (by omega), show 1 + pz n + 5 = (1 + pz n + 4) + 1 from rfl, h _ (by omega) (by omega),
    show 1 + pz n + 4 = (1 + pz n + 3) + 1 from rfl, h _ (by omega) (by omega), show 1 + pz n + 3 = (1 + pz n + 2) + 1 from rfl, h _ (by omega) (by omega), show 1 + pz n + 2 = (1 + pz n + 1) + 1 from rfl, h _ (by omega) (by omega), h (1 + pz n) (by omega) (by omega)]
  simp
theorem wpList_app {P : Program} {w : World} {ops : Array Oper} {rest : List Oper} {o : Oper} {a : Act} {Q : Exit → Act → World → Prop} (hgd : o.guard = none) (d s : Operand) (t : TypeId) (ho : o.op = .call { callee := .builtin .append, args := #[d, s], argTypes := #[t, t] })
    {v x v' : Value} {w' : World} (hd : a.eval d = v) (hs : a.eval s = x) (hrun : ∀ ty, (Builtin.append_ #[t, t] ty #[v, x]).run P w = .ok v' w') (h : wpList P ops Q rest (a.put o.dst v') w') : wpList P ops Q (o :: rest) a w := by
  refine wpList_plain hgd fun K hK => ?_
  unfold Oper.wp
  simp [execOp, ho, resolve, invoke, builtin, hd, hs, hrun, Result.andThen]
  exact hK _ _ h
/-- The text, and c bytes of what is laid behind it, appended so far. -/
structure Txt (w1 w : World) (l : List Nat) (c : Nat) (A : Option Addr) (cap : Nat) : Prop where
  own : Own w w1.heap.size 5 (.slice A (l.length + c) cap) (bv8 (l ++ (pd l.length).take c))
  low : Below w1.heap.size w1 w
theorem txt_len (l : List Nat) (c : Nat) (hc : c ≤ 1 + pz l.length + 16) : (l ++ (pd l.length).take c).length = l.length + c := by
  rw [List.length_append, List.length_take, pd_len]; omega
theorem Txt.push {w1 w : World} {l : List Nat} {c : Nat} {A : Option Addr} {cap : Nat} (h : Txt w1 w l c A cap) (x : Nat) (hx : (pd l.length)[c]? = some x) (hn : l.length < 2 ^ 30) :
    ∃ A' cap' w', (∀ ty, (Builtin.append_ #[23, 23] ty #[.slice A (l.length + c) cap, .slice (some ⟨w.heap.size, 0, none⟩) 1 1]).run Tryd.prog (w.alloc (.cells #[.int .u8 (x : Nat)] 5)) = .ok (.slice A' (l.length + (c + 1)) cap') w') ∧ Txt w1 w' l (c + 1) A' cap' := by
  have hc : c < 1 + pz l.length + 16 := by rw [← pd_len]; exact (List.getElem?_eq_some_iff.1 hx).1
  have hz := pz_lt l.length
  have ho := h.own
  rw [← txt_len l c (by omega)] at ho
  obtain ⟨A', cap', w', hr, ho', hs, hlo⟩ := app_bytes (ho.alloc (.cells #[.int .u8 (x : Nat)] 5)) (by have := h.low.size; simp; omega) _ [x] 1 rds_lit (Or.inl (by simp)) (by rw [txt_len l c (by omega)]; simp; omega)
  rw [List.append_assoc, ← take_succ' _ c x hx] at ho'
  rw [txt_len l c (by omega)] at hr
  rw [txt_len l (c + 1) (by omega)] at ho'
  exact ⟨A', cap', w', hr, ho', hlo _ (h.low.alloc h.low.size _)⟩
theorem Txt.eight {w1 w : World} {l : List Nat} {A : Option Addr} {cap : Nat} (h : Txt w1 w l (1 + pz l.length) A cap) (hn : l.length < 2 ^ 30) :
    ∃ A' cap' w', (∀ ty, (Builtin.append_ #[23, 23] ty #[.slice A (l.length + (1 + pz l.length)) cap, .slice (some ⟨w.heap.size, 0, none⟩) 8 8]).run Tryd.prog (w.alloc (.cells #[.int .u8 0, .int .u8 0, .int .u8 0, .int .u8 0, .int .u8 0, .int .u8 0, .int .u8 0, .int .u8 0] 5)) = .ok (.slice A' (l.length + (1 + pz l.length + 8)) cap') w') ∧ Txt w1 w' l (1 + pz l.length + 8) A' cap' := by
  have hz := pz_lt l.length
  have ho := h.own
  rw [← txt_len l _ (by omega)] at ho
  obtain ⟨A', cap', w', hr, ho', hs, hlo⟩ := app_bytes (ho.alloc (.cells #[.int .u8 0, .int .u8 0, .int .u8 0, .int .u8 0, .int .u8 0, .int .u8 0, .int .u8 0, .int .u8 0] 5)) (by have := h.low.size; simp; omega) _ [0, 0, 0, 0, 0, 0, 0, 0] 8 (rds_blk (Blk.new w _ _) _ fun i y hy => by
    rcases i with _ | _ | _ | _ | _ | _ | _ | _ | i
    all_goals first | (obtain rfl := Option.some.inj hy; rfl) | cases hy) (Or.inl (by simp)) (by rw [txt_len l _ (by omega)]; simp; omega)
  rw [List.append_assoc, ← pd_eight] at ho'
  rw [txt_len l _ (by omega)] at hr
  rw [txt_len l (1 + pz l.length + 8) (by omega)] at ho'
  exact ⟨A', cap', w', hr, ho', hlo _ (h.low.alloc h.low.size _)⟩
theorem mod_stop (n z : Nat) (h : z ≤ pz n) : (n + (1 + z)) % 128 = 112 ↔ z = pz n := by
  unfold pz at *; omega
/-- Read as bytes, from a block that is B or behind it. -/
def RdF (B : Nat) (w : World) (A : Option Addr) (l : List Nat) : Prop := Rds w A l ∧ ∀ a, A = some a → B ≤ a.block
theorem RdF.mono {B C : Nat} {w : World} {A : Option Addr} {l : List Nat} (h : RdF B w A l) (hc : C ≤ B) : RdF C w A l := ⟨h.1, fun a ha => Nat.le_trans hc (h.2 a ha)⟩
theorem RdF.low {B : Nat} {w w' : World} {A : Option Addr} {l : List Nat} (h : RdF B w A l) (hb : Below w.heap.size w w') : RdF B w' A l := ⟨h.1.low hb, h.2⟩
theorem RdF.cut {B : Nat} {w : World} {A : Option Addr} {l : List Nat} (h : RdF B w A l) (c cap : Nat) (hc : l.length ≤ cap) : RdF B w (cutA A c cap) (l.drop c) := ⟨h.1.cut c cap hc, fun a ha => by
  unfold cutA at ha
  split at ha
  · exact h.2 a ha
  · cases A with
    | none => cases ha
    | some x =>
      obtain rfl := Option.some.inj ha
      rw [add_block]; exact h.2 x rfl⟩
theorem RdF.row {B b : Nat} {w : World} {A : Option Addr} {l : List Nat} (h : RdF B w A l) (cs : Array Value) (hb : b < B) : RdF B (w.setRow b cs) A l := by
  refine ⟨?_, h.2⟩
  rcases h.1 with h1 | ⟨a, ha, hlt, hc⟩
  · exact Or.inl h1
  · refine Or.inr ⟨a, ha, by rw [setRow_size]; exact hlt, fun i x hx => ?_⟩
    rw [← hc i x hx]
    have hne : (a.add i).block ≠ b := by rw [add_block]; have := h.2 a ha; omega
    exact World.cell?_of_block (a := a.add i) (setRow_other w b _ cs hne)
theorem own_rdf {w : World} {B : Nat} {v : Value} {l : List Nat} (h : Own w B 5 v (bv8 l)) : ∃ A cap, v = .slice A l.length cap ∧ l.length ≤ cap ∧ RdF B w A l := by
  obtain ⟨A, cap, cells, rfl, h2, h3, h4, h5⟩ := h
  rw [bv8_len] at h2 ⊢
  refine ⟨A, cap, rfl, h2, ?_, ?_⟩
  · rcases h5 with ⟨g, rfl, hg, hB⟩ | ⟨rfl, rfl⟩
    · exact rds_blk hB l (fun i x hx => h4 i _ (by unfold bv8; rw [List.getElem?_map, hx]; rfl))
    · left; exact List.eq_nil_of_length_eq_zero (by omega)
  · intro a ha
    rcases h5 with ⟨g, rfl, hg, _⟩ | ⟨rfl, _⟩
    · obtain rfl := Option.some.inj ha; exact hg
    · cases ha
theorem rds_take {w : World} {A : Option Addr} {l : List Nat} (h : Rds w A l) (c : Nat) : Rds w A (l.take c) := by
  rcases h with h | ⟨a, ha, hlt, hc⟩
  · left; rw [h]; simp
  · right
    refine ⟨a, ha, hlt, fun i x hx => hc i x ?_⟩
    rw [List.getElem?_take] at hx
    split at hx
    · exact hx
    · cases hx
theorem blk_get (all : List Nat) (b j : Nat) (hj : j < 128) : ((all.drop (128 * b)).take 128).getD j 0 = bk all b j := by
  unfold bk
  rw [List.getD_eq_getElem?_getD, List.getD_eq_getElem?_getD, List.getElem?_take, if_pos hj, List.getElem?_drop]
theorem built24 : Tryd.prog.built 27 [] = some (vals .u8 64 (fun _ => 0)) := by kernel_rfl
set_option maxRecDepth 100000 in
set_option maxHeartbeats 4000000 in
theorem sumBy_any (A : Option Addr) (l : List Nat) (cap : Nat) (w : World) (hA : Rds w A l) (hcap : l.length ≤ cap) (hl : ∀ x ∈ l, x < 256) (hn : l.length < 2 ^ 30) :
    Calls Tryd.prog 26 #[.slice A l.length cap, .agg (arr 8 hc), .agg (arr 80 kc)] w fun e w' => e = .returned (.agg (vals .u8 64 (dg l))) ∧ Below w.heap.size w w' := by
  have HA := hide hA
  have Hcap := hide hcap
  have Hl := hide hl
  have Hn := hide hn
  clear hA hcap hl hn
  have hz := zero24
  have B1 := hide ((((Blk.new w (arr 8 hc) 45).alloc (.cells (arr 80 kc) 52)).alloc (.cells (vals .u8 64 (fun _ => 0)) 27)))
  have B2 := hide ((Blk.new' (w.alloc (.cells (arr 8 hc) 45)) (w.heap.size + 1) (by simp) (arr 80 kc) 52).alloc (.cells (vals .u8 64 (fun _ => 0)) 27))
  have B3 := hide (Blk.new' ((w.alloc (.cells (arr 8 hc) 45)).alloc (.cells (arr 80 kc) 52)) (w.heap.size + 1 + 1) (by simp) (vals .u8 64 (fun _ => 0)) 27)
  have L1 : Hid (Below w.heap.size w (((w.alloc (.cells (arr 8 hc) 45)).alloc (.cells (arr 80 kc) 52)).alloc (.cells (vals .u8 64 (fun _ => 0)) 27))) := hide ((((Below.refl _ w).alloc (Nat.le_refl _) _).alloc (by simp) _).alloc (by simp; omega) _)
  go_enter Tryd.func26, Tryd.ntmps26
  go_upto_region 1 with (fail)
  clear hz
  generalize (((w.alloc (.cells (arr 8 hc) 45)).alloc (.cells (arr 80 kc) 52)).alloc (.cells (vals .u8 64 (fun _ => 0)) 27)) = w1 at *
  obtain ⟨A1, c1, w2, r1, o1, s1, l1⟩ := app_bytes (w := w1.alloc (.cells #[] 5)) (B := w1.heap.size) (vs := []) (own_lit (Blk.new w1 #[] 5) (Nat.le_refl _)) (by simp) A l cap (HA.out.low (L1.out.alloc L1.out.size _)) (Or.inr rfl) (by have := Hn.out; simp; omega)
  have L2 := l1 w1 ((Below.refl _ w1).alloc (Nat.le_refl _) _)
  simp only [List.nil_append, List.length_nil, Nat.zero_add] at r1 o1
  have T0 : Txt w1 w2 l 0 A1 c1 := ⟨by rw [Nat.add_zero, List.take_zero, List.append_nil]; exact o1, L2⟩
  obtain ⟨A2, c2, w3, r2, T1⟩ := T0.push 128 rfl Hn.out
  simp only [Nat.add_zero, Nat.zero_add] at r2 T1
  rw [show ((128 : Nat) : Int) = 128 from rfl] at r2
  have HT := hide T1
  clear o1 s1 l1 L2 T0 T1
  have R1 := hide r1
  have R2 := hide r2
  clear r1 r2
  go_upto_region 2 with (first
    | (at_builtin; refine wpList_app rfl _ _ 23 rfl rfl rfl R1.out ?_)
    | (at_builtin; refine wpList_app rfl _ _ 23 rfl rfl rfl R2.out ?_))
  clear R1 R2
  go_loopw [7] (fun v wr => ∃ (z : Nat) (A' : Option Addr) (c' : Nat), z ≤ pz l.length ∧ v = .slice A' (l.length + (1 + z)) c' ∧ Txt w1 wr l (1 + z) A' c') (fun v _ => match v with | .slice _ len _ => l.length + 200 - len | _ => 0)
  case atStart => exact ⟨0, A2, c2, Nat.zero_le _, rfl, HT.out⟩
  case round =>
    clear HT
    obtain ⟨z, A3, c3, hz, rfl, T3⟩ := hrel
    have HT := hide T3
    clear T3
    by_cases hlt : z = pz l.length
    · subst hlt
      have hne : (l.length + (1 + pz l.length)) % 128 = 112 := (mod_stop _ _ (Nat.le_refl _)).2 rfl
      obtain ⟨A4, c4, w4, r4, T4⟩ := HT.out.eight Hn.out
      have R4 := hide r4
      have HT4 := hide T4
      clear r4 T4 HT
      obtain ⟨ln, hln⟩ : ∃ ln, ln = l.length + (1 + pz l.length) := ⟨_, rfl⟩
      rw [← hln] at hne R4
      rw [← hln]
      clear hln
      have hm1 : (ln : Int).tmod 128 = 112 := by rw [rem128]; omega
      have hm2 : (ln : Int) % 128 = 112 := by omega
      obtain ⟨n8, hn8⟩ : ∃ n8, n8 = 8 * l.length := ⟨_, rfl⟩
      have hcv : IntKind.u64.wrap (l.length : Int) = (l.length : Int) := by have := Hn.out; rw [wrap_u64']; omega
      have hmul : IntKind.u64.wrap ((l.length : Int) * 8) = (n8 : Int) := by have := Hn.out; rw [wrap_u64']; omega
      have Hn8 := hide hn8
      clear hne hn8
      go_upto_region 6 with (at_builtin; refine wpList_app rfl _ _ 23 rfl rfl rfl R4.out ?_)
      clear hm1 hm2 hcv hmul R4
      obtain ⟨m0, hm0⟩ : ∃ m0, m0 = l.length + (1 + pz l.length + 8) := ⟨_, rfl⟩
      rw [← hm0]
      have Hm0 := hide hm0
      clear hm0
      go_wp2
      go_loopw [7, 9] (fun v i wr => ∃ (j : Nat) (A' : Option Addr) (c' : Nat), j ≤ 8 ∧ i = .int .i64 ((7 : Int) - (j : Int)) ∧ v = .slice A' (m0 + j) c' ∧ Txt w1 wr l (1 + pz l.length + 8 + j) A' c') (fun v _ _ => match v with | .slice _ len _ => m0 + 8 - len | _ => 0)
      case atStart => exact ⟨0, A4, c4, Nat.zero_le _, rfl, rfl, HT4.out⟩
      case round =>
        clear HT4
        obtain ⟨j, A5, c5, hj, rfl, rfl, T5⟩ := hrel
        have HT := hide T5
        clear T5
        by_cases hlt : j < 8
        · obtain ⟨A6, c6, w6, r6, T6⟩ := HT.out.push (wb (8 * l.length) j) (pd_word _ j hlt) Hn.out
          rw [← Hn8.out] at r6
          obtain ⟨bt, hbt⟩ : ∃ bt, bt = wb n8 j := ⟨_, rfl⟩
          rw [← hbt, show l.length + (1 + pz l.length + 8 + j) = m0 + j by rw [Hm0.out]; omega, show l.length + (1 + pz l.length + 8 + j + 1) = m0 + (j + 1) by rw [Hm0.out]; omega] at r6
          have R6 := hide r6
          have HT6 := hide T6
          clear r6 T6 HT
          obtain ⟨s, hs⟩ : ∃ s, s = 7 - j := ⟨_, rfl⟩
          have hs7 : (7 : Int) - (j : Int) = (s : Int) := by omega
          rw [hs7]
          have hs0 : (0 : Int) ≤ (s : Int) := by omega
          have hsm : IntKind.i64.wrap (8 * (s : Int)) = 8 * (s : Int) := wrap_i64_small' _ (by omega) (by omega)
          have hsu : IntKind.u64.wrap (8 * (s : Int)) = 8 * (s : Int) := by rw [wrap_u64']; omega
          have hs8 : (0 : Int) ≤ 8 * (s : Int) := by omega
          have hs9 : 8 * (s : Int) < 64 := by omega
          have hsn : (8 * (s : Int)).toNat = 8 * s := by omega
          have hby : (n8 : Int) / 2 ^ (8 * s) % 256 = (bt : Int) := by
            rw [hbt, show 8 * s = 56 - 8 * j by omega]; unfold wb; simp
          have hsw : IntKind.i64.wrap ((s : Int) - 1) = (s : Int) - 1 := by simp [IntKind.wrap, IntKind.bits, IntKind.signed]; omega
          have Hsj := hide hs7
          clear hbt hs hs7
          go_wp2_with (at_builtin; refine wpList_app rfl _ _ 23 rfl rfl rfl R6.out ?_)
          refine ⟨⟨j + 1, A6, c6, by omega, ?_, rfl, HT6.out⟩, ?_⟩
          · congr 1; have := Hsj.out; omega
          · show m0 + 8 - (m0 + (j + 1)) < m0 + 8 - (m0 + j)
            omega
        · have e8 : j = 8 := by omega
          subst e8
          rw [show (7 : Int) - ((8 : Nat) : Int) = -1 from rfl]
          obtain ⟨all, hall⟩ : ∃ all, all = l ++ pd l.length := ⟨_, rfl⟩
          have ht : (pd l.length).take (1 + pz l.length + 8 + 8) = pd l.length := by rw [List.take_of_length_le]; rw [pd_len]; omega
          have hlen : m0 + 8 = all.length := by rw [hall, List.length_append, pd_len, Hm0.out]; omega
          have ho := HT.out.own
          rw [ht, ← hall, show l.length + (1 + pz l.length + 8 + 8) = all.length by rw [← hlen, Hm0.out]; omega] at ho
          have hlow := HT.out.low
          obtain ⟨A6, c6, e6, hc6, hr6⟩ := own_rdf ho
          injection e6 with e1 _ e3
          subst e1 e3
          have Hall := hide hall
          have Hmod : Hid (all.length % 128 = 0) := hide (by rw [← hlen, Hm0.out]; have := pd_mod l.length; omega)
          have Hbig : Hid (all.length < 2 ^ 31) := hide (by rw [← hlen, Hm0.out]; have := pz_lt l.length; have := Hn.out; omega)
          have Hb : Hid (∀ x ∈ all, x < 256) := hide (fun x hx => by
            rw [Hall.out] at hx
            rcases List.mem_append.1 hx with h | h
            · exact Hl.out x h
            · exact pd_lt _ x h)
          have Hq : Hid (all.length / 128 = (l.length + (1 + pz l.length + 16)) / 128) := hide (by have := Hm0.out; omega)
          rw [hlen]
          have HR := hide (hr6.mono (show w.heap.size + 1 ≤ w1.heap.size by have := B2.out.lt; omega))
          have Hc6 := hide hc6
          have K1 := hide (B1.out.below hlow B1.out.lt)
          have K2 := hide (B2.out.below hlow B2.out.lt)
          have K3 := hide (B3.out.below hlow B3.out.lt)
          have KL := hide (L1.out.trans (hlow.mono L1.out.size))
          clear HT ho hlow hr6 hc6 hlen ht hall B1 B2 B3 L1
          go_wp2
          go_loopw [7] (fun v wv => ∃ (b : Nat) (A' : Option Addr) (c' : Nat), 128 * b ≤ all.length ∧ v = .slice A' (all.length - 128 * b) c' ∧ all.length - 128 * b ≤ c' ∧ RdF (w.heap.size + 1) wv A' (all.drop (128 * b)) ∧ Blk wv w.heap.size (arr 8 (hs all b)) 45 ∧ Blk wv (w.heap.size + 1) (arr 80 kc) 52 ∧ Blk wv (w.heap.size + 1 + 1) (vals .u8 64 (fun _ => 0)) 27 ∧ Below w.heap.size w wv) (fun v _ => match v with | .slice _ len _ => len | _ => 0)
          case atStart => exact ⟨0, A5, c5, Nat.zero_le _, rfl, Hc6.out, HR.out, K1.out, K2.out, K3.out, KL.out⟩
          case round =>
            clear HR Hc6 K1 K2 K3 KL
            obtain ⟨b, A7, c7, hb, rfl, hc7, hr7, K1, K2, K3, KL⟩ := hrel
            by_cases hpos : 0 < all.length - 128 * b
            · have h128 : 128 ≤ all.length - 128 * b := by have := Hmod.out; omega
              obtain ⟨ln, hln⟩ : ∃ ln, ln = all.length - 128 * b := ⟨_, rfl⟩
              rw [← hln] at hpos hc7 h128
              rw [← hln]
              have hhd := run_head A7 ln c7 (by omega)
              have hct := run_cut A7 ln c7 128 h128
              rw [show ((128 : Nat) : Int) = 128 from rfl] at hct
              have hp0 : (0 : Int) < (ln : Int) := by omega
              have Hln := hide hln
              have Hc7 := hide hc7
              have Hh := hide h128
              have HR7 := hide hr7
              have G1 := hide K1
              have G2 := hide K2
              have G3 := hide K3
              have GL := hide KL
              have Hb2 := hide hb
              clear hln hc7 h128 hr7 K1 K2 K3 KL hpos hb
              go_wp2
              refine wp_region_held_drew (S := fun w' => Blk w' (w.heap.size + 1) (arr 80 kc) 52) (by kernel_rfl) G2.out.drew (fun hHeld => ?_)
              refine wpAnyH_take (i := 1) (oi := { dst := some 48, op := Op.move (Operand.tmp 7), type := 23, pos := "ref.go:128", after := #[], guard := none }) (v := .slice A7 ln c7) rfl (by kernel_rfl) (by kernel_rfl) (by kernel_rfl) (fun _ _ _ h => h) (Or.inl ⟨by rfl, fun w hSw => by go_simp⟩) hHeld ?_
              try simp only [Act.put, List.setIfInBounds_toArray, List.set_cons_zero, List.set_cons_succ]
              refine wpAnyH_take (i := 2) (oi := { dst := some 49, op := Op.slice 23 (Operand.tmp 48) none (some (Operand.const (Value.int IntKind.i64 128))) none, type := 23, pos := "ref.go:128", after := #[{ on := 1, ground := Ground.data }], guard := none }) (v := .slice A7 128 c7) rfl (by kernel_rfl) (by kernel_rfl) (by kernel_rfl) (fun _ _ _ h => h) (Or.inl ⟨by rfl, fun w hSw => by go_simp⟩) hHeld ?_
              try simp only [Act.put, List.setIfInBounds_toArray, List.set_cons_zero, List.set_cons_succ]
              refine wpAnyH_take (i := 3) (oi := { dst := some 50, op := Op.load 52 (Operand.tmp 5), type := 52, pos := "ref.go:128", after := #[], guard := none }) (v := .agg (arr 80 kc)) rfl (by kernel_rfl) (by kernel_rfl) (by kernel_rfl) (fun _ _ _ h => h) (yields_S (fun _ h => h) (by rfl) 52 _ rfl rfl _ Tryd.underlying52 rfl (by rw [arr_size]; exact cells36)) hHeld ?_
              try simp only [Act.put, List.setIfInBounds_toArray, List.set_cons_zero, List.set_cons_succ]
              refine wpAnyH_ready (rs := [0]) (by kernel_rfl) (by simp) ?_
              refine AllReadyH.cons (o := { dst := some 47, op := Op.load 45 (Operand.tmp 4), type := 45, pos := "ref.go:128", after := #[], guard := none }) rfl (fun K hK => ?_) AllReadyH.nil
              rw [if_pos (by rfl)]
              refine wp_load_row 45 _ rfl w.heap.size rfl 45 _ (0, 0) _ G1.out.drew Tryd.underlying45 rfl (by rw [arr_size]; exact cells28) ?_
              refine hK.out _ _ hHeld (fun hHeld => ?_)
              clear hK K
              try simp only [Act.put, List.setIfInBounds_toArray, List.set_cons_zero, List.set_cons_succ]
              refine wpAnyH_ready (rs := [4]) (by kernel_rfl) (by simp) ?_
              refine AllReadyH.cons (o := { dst := some 51, op := Op.call { callee := Callee.value (Operand.func 30), args := #[Operand.tmp 47, Operand.tmp 49, Operand.tmp 50], argTypes := #[45, 23, 52] }, type := 45, pos := "ref.go:128", after := #[{ on := 0, ground := Ground.data }, { on := 2, ground := Ground.data }, { on := 3, ground := Ground.data }], guard := none }) rfl (fun K hK => ?_) AllReadyH.nil
              go_simp
              refine (block_at (hs all b) A7 ((all.drop (128 * b)).take 128) c7 _ _ (by rfl) (hs_lt all b) (rds_take (HR7.out.1.low (Below.refl _ wr).drew) 128) (by rw [List.length_take, List.length_drop]; have := Hh.out; have := Hln.out; omega) (fun x hx => Hb.out x (List.mem_of_mem_drop (List.mem_of_mem_take hx)))).mono ?_
              rintro e w8 ⟨rfl, hb8⟩
              have F1 := hide (G1.out.drew.call hb8)
              have F2 := hide (G2.out.drew.call hb8)
              have F3 := hide (G3.out.drew.call hb8)
              have FL := hide (keepLow2 GL.out.drew hb8)
              have HR8 : Hid (RdF (w.heap.size + 1) w8 A7 (all.drop (128 * b))) := hide (HR7.out.low ((Below.refl _ wr).drew.trans hb8))
              have Hnx : Hid (arr 8 (fun i => (hs all b i + out (hs all b) (fun j => ((all.drop (128 * b)).take 128).getD j 0) i) % 2 ^ 64) = arr 8 (hs all (b + 1))) := hide (arr_congr _ _ _ fun i _ => by
                show _ = (hs all b i + out (hs all b) (bk all b) i) % 2 ^ 64
                rw [out_congr (hs all b) _ (bk all b) fun j hj => blk_get all b j hj])
              rw [Hnx.out]
              dsimp only
              refine hK.out _ _ (hHeld.call hb8) (fun hHeld => ?_)
              clear hK K hb8
              try simp only [Act.put, List.setIfInBounds_toArray, List.set_cons_zero, List.set_cons_succ]
              refine wpAnyH_ready (rs := [5]) (by kernel_rfl) (by simp) ?_
              refine AllReadyH.cons (o := { dst := none, op := Op.store 45 (Operand.tmp 4) (Operand.tmp 51), type := 0, pos := "ref.go:128", after := #[{ on := 4, ground := Ground.data }, { on := 4, ground := Ground.chain }, { on := 0, ground := Ground.phase }, { on := 1, ground := Ground.phase }, { on := 2, ground := Ground.phase }, { on := 3, ground := Ground.phase }, { on := 4, ground := Ground.phase }], guard := none }) rfl (fun K hK => ?_) AllReadyH.nil
              rw [if_pos (by rfl)]
              refine wp_store_row 45 _ _ rfl w.heap.size (arr 8 (hs all (b + 1))) rfl rfl 45 _ F1.out (by rw [arr_size]; exact cells28) (by rw [arr_size, arr_size]) (arr_one _ _) ?_
              refine hK.out _ _ (hHeld.rowOther _ (by omega)) (fun hHeld => ?_)
              clear hK K
              simp only [Act.put]
              refine wpAnyH_done (by kernel_rfl) ?_ _
              go_wp2
              refine ⟨⟨b + 1, cutA A7 128 c7, c7 - 128, ?_, ?_, ?_, ?_, F1.out.row _, F2.out.rowOther _ (by omega), F3.out.rowOther _ (by omega), Below.row FL.out (Nat.le_refl _) _⟩, ?_⟩
              · have := Hh.out; have := Hln.out; omega
              · congr 1; have := Hh.out; have := Hln.out; omega
              · have := Hh.out; have := Hln.out; have := Hc7.out; omega
              · have h1 := (HR8.out.cut 128 c7 (by rw [List.length_drop]; have := Hln.out; have := Hc7.out; omega)).row (arr 8 (hs all (b + 1))) (show w.heap.size < w.heap.size + 1 by omega)
                rw [List.drop_drop] at h1
                rw [show 128 * (b + 1) = 128 * b + 128 by omega]
                exact h1
              · show ln - 128 < ln
                have := Hh.out; omega
            · have hb0 : all.length = 128 * b := by omega
              have Heq : Hid (∀ i, i < 64 → wb (hs all b (i / 8)) (i % 8) = dg l i) := hide (fun i hi => by
                have h1 : b = (l.length + (1 + pz l.length + 16)) / 128 := by rw [← Hq.out, hb0]; omega
                unfold dg
                rw [← Hall.out, ← h1]; rfl)
              have G1 := hide K1
              have G3 := hide K3
              have GL := hide KL
              have Hlt := hide (hs_lt all b)
              have hln0 : all.length - 128 * b = 0 := by omega
              rw [hln0]
              clear hr7 K1 K2 K3 KL hpos hb hb0 hc7 hln0
              have hz := zero24
              go_upto_region 14 with (first
                | (refine wpList_build rfl 27 #[] rfl (by simp [built24]) ?_; simp only [List.map_toArray, List.map_nil, built24, Option.getD_some])
                | (refine wpList_store_abs rfl 27 _ _ rfl wr.heap.size (vals .u8 64 (fun _ => 0)) rfl rfl 27 _ (Blk.new wr _ _) (by rw [vals_size]; exact cells24) (by simp only [vals_size]) (vals_one _ _ _) ?_; intro k2 Bn Sn; have F1 := hide (Sn.other _ _ _ (Nat.ne_of_gt G1.out.lt) (G1.out.alloc _)); have F3 := hide (Sn.other _ _ _ (Nat.ne_of_gt G3.out.lt) (G3.out.alloc _)); have FL := hide (Sn.low _ _ (GL.out.alloc GL.out.size _) GL.out.size); have FD := hide Bn; have Hdd : Hid (w.heap.size < wr.heap.size ∧ w.heap.size + 1 + 1 < wr.heap.size) := hide ⟨G1.out.lt, G3.out.lt⟩; clear Bn Sn G1 G3 GL))
              clear hz
              generalize wr.heap.size = bd at *
              simp only [Act.put]
              go_wp2
              go_loopw [11] (fun i wr => ∃ k : Nat, k ≤ 64 ∧ i = .int .i64 k ∧ Blk wr bd (vals .u8 64 (fun j => if j < k then wb (hs all b (j / 8)) (j % 8) else 0)) 27 ∧ Blk wr w.heap.size (arr 8 (hs all b)) 45 ∧ Blk wr (w.heap.size + 1 + 1) (vals .u8 64 (fun _ => 0)) 27 ∧ Below w.heap.size w wr) (fun i _ => 64 - (intOf i).toNat)
              case atStart => exact ⟨0, by omega, rfl, FD.out.cast (vals_congr _ _ _ _ fun j _ => by simp), F1.out, F3.out, FL.out⟩
              case round =>
                clear FD F1 F3 FL
                obtain ⟨k, hk, rfl, Bd, Bh, Bz, L⟩ := hrel
                by_cases hlt : k < 64
                · have ch := Bh.cell (k / 8)
                  rw [arr_get _ _ _ (by omega)] at ch
                  have cd := Bd.cell k
                  rw [vals_get _ _ _ _ hlt] at cd
                  have fd := Bd.frozen k
                  have HB := hide (upd_vals .u8 64 (fun _ => 0) (fun j => wb (hs all b (j / 8)) (j % 8)) k _ _ _ Bd)
                  have HBh := hide Bh
                  have HBz := hide Bz
                  have HL := hide L
                  clear Bd Bh Bz L
                  have hk0 : (0 : Int) ≤ (k : Int) := by omega
                  have hk6 : (k : Int) < 64 := by omega
                  have hq0 : (0 : Int) ≤ (k : Int) / 8 := by omega
                  have hq4 : (k : Int) / 8 < 8 := by omega
                  have hq : IntKind.i64.wrap ((k : Int).tdiv 8) = (k : Int) / 8 := quo8 k (by omega)
                  have hq' : IntKind.i64.wrap ((k : Int) / 8) = (k : Int) / 8 := quo8' k (by omega)
                  have hqn : ((k : Int) / 8).toNat = k / 8 := by omega
                  have hr1 : (k : Int).tmod 8 = ((k % 8 : Nat) : Int) := by rw [Int.tmod_eq_emod_of_nonneg (by omega)]; omega
                  have hr2 : (k : Int) % 8 = ((k % 8 : Nat) : Int) := by omega
                  obtain ⟨y, hy⟩ : ∃ y, y = k % 8 := ⟨_, rfl⟩
                  rw [← hy] at hr1 hr2
                  have hy8 : y < 8 := by omega
                  have hr3 : IntKind.i64.wrap (8 * (y : Int)) = 8 * (y : Int) := wrap_i64_small' _ (by omega) (by omega)
                  have hr4 : IntKind.i64.wrap (56 - 8 * (y : Int)) = 56 - 8 * (y : Int) := wrap_i64_small' _ (by omega) (by omega)
                  have hr5 : IntKind.u64.wrap (56 - 8 * (y : Int)) = 56 - 8 * (y : Int) := by rw [wrap_u64']; omega
                  have hr6 : (0 : Int) ≤ 56 - 8 * (y : Int) := by omega
                  have hr7 : 56 - 8 * (y : Int) < 64 := by omega
                  have hr8 : (56 - 8 * (y : Int)).toNat = 56 - 8 * y := by omega
                  have Hw : Hid (((hs all b (k / 8) : Nat) : Int) / 2 ^ (56 - 8 * y) % 256 = ((wb (hs all b (k / 8)) (k % 8) : Nat) : Int)) := hide (by rw [← hy]; unfold wb; simp)
                  clear hy
                  go_wp2
                  rw [Hw.out]
                  go_roundw
                  case rel => exact ⟨k + 1, by omega, by go_num, HB.out, HBh.out.setOther _ _ (by have := Hdd.out; omega), HBz.out.setOther _ _ (by have := Hdd.out; omega), HL.out.setCell (by show w.heap.size ≤ bd; have := Hdd.out; omega) _⟩
                  case measure => simp [intOf]; omega
                · have e6 : k = 64 := by omega
                  subst e6
                  have HB := hide (Bd.cast (vals_congr _ 64 _ (dg l) fun j hj => by rw [if_pos hj]; exact Heq.out j hj))
                  have HBz := hide Bz
                  have HL := hide L
                  clear Bd Bh Bz L
                  go_wp2_with (first
                    | (refine wpList_load_row rfl 27 _ rfl bd rfl 27 _ (0, 0) _ HB.out Tryd.underlying27 rfl (by rw [vals_size]; exact cells24) ?_)
                    | (refine wpList_store_row rfl 27 _ _ rfl (w.heap.size + 1 + 1) (vals .u8 64 (dg l)) rfl rfl 27 _ HBz.out (by rw [vals_size]; exact cells24) (by rw [vals_size, vals_size]) (vals_one _ _ _) ?_))
                  refine bodyPost_ret (v := .agg (vals .u8 64 (dg l))) (results_cell_row Tryd.results26 _ _ (w.heap.size + 1 + 1) 27 _ (0, 0) _ rfl (HBz.out.row _) Tryd.underlying27 rfl (by rw [vals_size]; exact cells24)) rfl ⟨rfl, ?_⟩
                  exact Below.row HL.out (by omega) _
    · have hz' : z < pz l.length := by omega
      have hne : ¬ (l.length + (1 + z)) % 128 = 112 := fun h => hlt ((mod_stop _ _ hz).1 h)
      obtain ⟨A4, c4, w4, r4, T4⟩ := HT.out.push 0 (pd_zero _ _ (by omega) (by omega)) Hn.out
      rw [show ((0 : Nat) : Int) = 0 from rfl] at r4
      have R4 := hide r4
      have HT4 := hide T4
      clear r4 T4
      obtain ⟨ln, hln⟩ : ∃ ln, ln = l.length + (1 + z) := ⟨_, rfl⟩
      rw [← hln] at hne R4
      rw [← hln]
      have Hln := hide hln
      clear hln
      have hm1 : (ln : Int).tmod 128 = ((ln % 128 : Nat) : Int) := rem128 ln
      have hm2 : (ln : Int) % 128 = ((ln % 128 : Nat) : Int) := by omega
      obtain ⟨y, hy⟩ : ∃ y, y = ln % 128 := ⟨_, rfl⟩
      rw [← hy] at hm1 hm2 hne
      have hq : ¬ (y : Int) = 112 := by omega
      have hq2 : ((y : Int) == 112) = false := by rw [beq_eq_false_iff_ne]; exact hq
      clear hy hne
      go_wp2_with (at_builtin; refine wpList_app rfl _ _ 23 rfl rfl rfl R4.out ?_)
      refine ⟨⟨z + 1, A4, c4, by omega, rfl, HT4.out⟩, ?_⟩
      show l.length + 200 - (l.length + (1 + z + 1)) < l.length + 200 - ln
      have := Hln.out
      have := pz_lt l.length
      omega
end Go.Proofs.YtjnjedannpnjiaaDoor

/- The reference of chapter 5: Expand. -/
import Derived.Test.YtjnjedannpnjiaaDoorXn
import Derived.Test.YtjnjedannpnjiaaDoorMk
namespace Go.Proofs.YtjnjedannpnjiaaDoor
open Go.RowKit

theorem run_app_none (w : World) (ty : TypeId) (A : Option Addr) (c : Nat) : (Builtin.append_ #[23, 23] ty #[.slice none 0 0, .slice A 0 c]).run Tryd.prog w = .ok (.slice none 0 0) w := by
  obtain ⟨i, hi, _, hb, _⟩ := info5
  cases A with
  | none => simp [Builtin.append_, run_underlying Tryd.underlying23, sizeOf, typeInfo, hi, hb, Builtin.lenOf, run_firstCells_none w i.size 0 0 c]
  | some a => simp [Builtin.append_, run_underlying Tryd.underlying23, sizeOf, typeInfo, hi, hb, Builtin.lenOf, run_firstCells_some w i.size 0 a 0 c [] (by simp) (fun j y hy => by cases hy)]
theorem Own.ne {w : World} {B n c : Nat} {e : TypeId} {A : Option Addr} {vs : List Value} (h : Own w B e (.slice A n c) vs) (b : Nat) (hb : w.heap.size ≤ b) : A.map (·.block) ≠ some b := by
  obtain ⟨A0, cap, cells, e0, _, _, _, h5⟩ := h
  injection e0 with e1
  subst e1
  rcases h5 with ⟨g, rfl, _, hB⟩ | ⟨rfl, _⟩
  · have := hB.lt
    simp; omega
  · simp
/-- append to an own slice: other blocks stay. -/
theorem own_append2 {B : Nat} {t e : TypeId} {w : World} {A : Option Addr} {cap : Nat} {vs : List Value} (ht : Tryd.prog.underlying t = some (.slice e)) (hsz : (Tryd.prog.info? e).map (·.size) = some 1) (hz : (((Tryd.prog.info? e).bind (·.zero)).map fun z => z.cells.size) = some 1) (hby : ((Tryd.prog.info? e).map fun i => decide (i.bytes ≤ 24)) = some true)
    (h : Own w B e (.slice A vs.length cap) vs) (hBw : B ≤ w.heap.size) (x : Value) (news : List Value) (hs : Src Tryd.prog 1 t x news.length news w) (hn : 0 < news.length ∨ A.isSome = true) (hl : vs.length + news.length ≤ 2 ^ 40) :
    ∃ A' cap' w', (∀ ty, (Builtin.append_ #[t, t] ty #[.slice A vs.length cap, x]).run Tryd.prog w = .ok (.slice A' (vs.length + news.length) cap') w') ∧ Own w' B e (.slice A' (vs ++ news).length cap') (vs ++ news) ∧ w.heap.size ≤ w'.heap.size ∧ (∀ a, Below B a w → Below B a w') ∧ ∀ b c t, Blk w b c t → A.map (·.block) ≠ some b → Blk w' b c t := by
  cases hi : Tryd.prog.info? e with
  | none => rw [hi] at hsz; cases hsz
  | some i =>
    have hsize : i.size = 1 := by rw [hi] at hsz; simpa using hsz
    have hbytes : i.bytes ≤ 24 := by rw [hi] at hby; simpa using hby
    obtain ⟨z, hzz, hzc⟩ : ∃ z, i.zero = some z ∧ z.cells.size = 1 := by
      rw [hi] at hz
      cases h0 : i.zero with
      | none => simp [h0] at hz
      | some z => exact ⟨z, rfl, by simpa [h0] using hz⟩
    obtain ⟨A0, cap0, cells, e0, h2, h3, h4, h5⟩ := h
    injection e0 with e1 _ e3
    subst e1 e3
    by_cases hroom : vs.length + news.length ≤ cap
    · rcases h5 with ⟨g, rfl, hg, hB⟩ | ⟨rfl, rfl⟩
      · have hr := fun ty => run_append_room_src (P := Tryd.prog) w t t ty e i ht hi g 0 vs.length cap x news.length news (by rw [hsize]; exact hs) hroom (fun j hj => by
          rw [hsize, hB.cell, Array.getElem?_eq_getElem (by omega)]; rfl) (fun j hj => hB.frozen _)
        refine ⟨_, _, _, hr, ⟨some ⟨g, 0, none⟩, cap, setL cells (0 + vs.length * i.size) news, ?_, by simpa using hroom, by rw [setL_size]; exact h3, ?_, Or.inl ⟨g, rfl, hg, hB.setCells news _⟩⟩, (sto_cells g news w _).size, fun a ha => (sto_cells g news w _).low B a ha hg, fun b c t hb hne => (sto_cells g news w _).other b c t (fun e => hne (by rw [e]; rfl)) hb⟩
        · rfl
        · intro j y hy
          rw [setL_get _ _ _ _ (by rw [hsize]; omega), hsize, Nat.mul_one, Nat.zero_add]
          by_cases hj : j < vs.length
          · rw [if_neg (by omega)]
            rw [List.getElem?_append_left hj] at hy
            exact h4 j y hy
          · rw [List.getElem?_append_right (by omega)] at hy
            have hjl := (List.getElem?_eq_some_iff.1 hy).1
            rw [if_pos (by omega)]; exact hy
      · rcases hn with hn | hn
        · omega
        · cases hn
    · have hold : (Builtin.firstCells i.size vs.length (.slice A vs.length cap)).run Tryd.prog w.drew = .ok vs.toArray w.drew := by
        rcases h5 with ⟨g, rfl, hg, hB⟩ | ⟨rfl, rfl⟩
        · exact run_firstCells_some w.drew i.size vs.length ⟨g, 0, none⟩ vs.length cap vs (by rw [hsize, Nat.mul_one]) (fun j y hy => by
            rw [Addr.add_mid, Nat.zero_add, hB.drew.cell]; exact h4 j y hy)
        · obtain rfl : vs = [] := List.eq_nil_of_length_eq_zero (by omega)
          exact run_firstCells_none w.drew i.size 0 0 0
      have hr := fun ty => run_append_grow_src (P := Tryd.prog) w t t ty e i z ht hi hzz A vs.length cap vs hold x news.length news (by rw [hsize]; exact hs) (by omega) (by omega) (growslice_fits (by omega) (by
        have : (vs.length + news.length) * i.bytes ≤ 2 ^ 40 * 24 := Nat.mul_le_mul hl hbytes
        omega))
      have hge := grownCap_ge w (vs.length + news.length) cap e
      refine ⟨_, _, _, hr, ⟨_, _, _, rfl, by rw [List.length_append]; exact hge, ?_, ?_, Or.inl ⟨w.heap.size, rfl, hBw, Blk.new' w.drew w.heap.size rfl _ _⟩⟩, by simp, fun a ha => ha.drew.alloc hBw _, fun b c t hb _ => hb.drew.alloc _⟩
      · rw [Array.size_append, size_zeroCells, hzc]; simp; omega
      · intro j y hy
        have hjl := (List.getElem?_eq_some_iff.1 hy).1
        rw [Array.getElem?_append_left (by simpa using hjl)]
        simpa using hy
/-- append to an own slice, whatever it is. -/
theorem app_any {B : Nat} {w : World} {A : Option Addr} {cap : Nat} {vs : List Nat} (h : Own w B 5 (.slice A vs.length cap) (bv8 vs)) (hBw : B ≤ w.heap.size) (A2 : Option Addr) (l : List Nat) (cap2 : Nat) (hs : Rds w A2 l) (hl : vs.length + l.length ≤ 2 ^ 40) :
    ∃ A' cap' w', (∀ ty, (Builtin.append_ #[23, 23] ty #[.slice A vs.length cap, .slice A2 l.length cap2]).run Tryd.prog w = .ok (.slice A' (vs.length + l.length) cap') w') ∧ Own w' B 5 (.slice A' (vs ++ l).length cap') (bv8 (vs ++ l)) ∧ w.heap.size ≤ w'.heap.size ∧ (∀ a, Below B a w → Below B a w') ∧ ∀ b c t, Blk w b c t → A.map (·.block) ≠ some b → Blk w' b c t := by
  have key : 0 < l.length ∨ A.isSome = true → ∃ A' cap' w', (∀ ty, (Builtin.append_ #[23, 23] ty #[.slice A vs.length cap, .slice A2 l.length cap2]).run Tryd.prog w = .ok (.slice A' (vs.length + l.length) cap') w') ∧ Own w' B 5 (.slice A' (vs ++ l).length cap') (bv8 (vs ++ l)) ∧ w.heap.size ≤ w'.heap.size ∧ (∀ a, Below B a w → Below B a w') ∧ ∀ b c t, Blk w b c t → A.map (·.block) ≠ some b → Blk w' b c t := fun hn => by
    have h' : Own w B 5 (.slice A (bv8 vs).length cap) (bv8 vs) := by rw [bv8_len]; exact h
    obtain ⟨A', cap', w', hr, ho, hsz, hlo, hot⟩ := own_append2 Tryd.underlying23 (by kernel_rfl) (by kernel_rfl) (by kernel_rfl) h' hBw (.slice A2 l.length cap2) (bv8 l) (src_rds cap2 hs) (by rw [bv8_len]; exact hn) (by rw [bv8_len, bv8_len]; exact hl)
    rw [← bv8_app, bv8_len] at ho
    rw [bv8_len, bv8_len] at hr
    exact ⟨A', cap', w', hr, ho, hsz, hlo, hot⟩
  cases A with
  | some a => exact key (Or.inr rfl)
  | none =>
    by_cases h0 : 0 < l.length
    · exact key (Or.inl h0)
    · obtain rfl : l = [] := List.eq_nil_of_length_eq_zero (by omega)
      obtain ⟨A0, cap0, cells, e0, h2, h3, h4, h5⟩ := id h
      injection e0 with e1 e2 e3
      subst e1 e3
      rcases h5 with ⟨g, hg, _⟩ | ⟨_, hc⟩
      · cases hg
      · subst hc
        rw [bv8_len] at h2
        obtain rfl : vs = [] := List.eq_nil_of_length_eq_zero (by omega)
        exact ⟨none, 0, w, fun ty => run_app_none w ty A2 cap2, by simpa using h, Nat.le_refl _, fun _ h => h, fun _ _ _ h _ => h⟩
/-- What a block is the code of, made by three appends. -/
theorem txt3 (wr : World) (A2 C : Option Addr) (t u : List Nat) (c2 cc c : Nat) (hA : Rds wr A2 t) (hC : Rds wr C u) (ht : t.length ≤ 64) (hu : u.length ≤ 500) :
    ∃ (A3 A4 A5 : Option Addr) (c3 c4 c5 : Nat) (w3 w4 w5 : World),
      (∀ ty, (Builtin.append_ #[23, 23] ty #[.slice (some ⟨wr.heap.size, 0, none⟩) 0 0, .slice A2 t.length c2]).run Tryd.prog (wr.alloc (.cells #[] 5)) = .ok (.slice A3 t.length c3) w3) ∧
      (∀ ty, (Builtin.append_ #[23, 23] ty #[.slice A3 t.length c3, .slice C u.length cc]).run Tryd.prog w3 = .ok (.slice A4 (t.length + u.length) c4) w4) ∧
      (∀ ty, (Builtin.append_ #[23, 23] ty #[.slice A4 (t.length + u.length) c4, .slice (some ⟨w4.heap.size, 0, none⟩) 1 1]).run Tryd.prog (w4.alloc (.cells #[.int .u8 c] 5)) = .ok (.slice A5 (t.length + u.length + 1) c5) w5) ∧
      Rds w5 A5 (t ++ (u ++ [c])) ∧ t.length + u.length + 1 ≤ c5 ∧ Below wr.heap.size wr w5 := by
  have b1 := (Below.refl wr.heap.size wr).alloc (Nat.le_refl _) (.cells #[] 5)
  obtain ⟨A3, c3, w3, r3, o3, s3, l3, _⟩ := app_any (w := wr.alloc (.cells #[] 5)) (B := wr.heap.size) (vs := []) (own_lit (Blk.new wr #[] 5) (Nat.le_refl _)) (by simp) A2 t c2 (hA.low b1) (by simp; omega)
  have b3 := l3 wr b1
  simp only [List.nil_append, List.length_nil, Nat.zero_add] at r3 o3
  obtain ⟨A4, c4, w4, r4, o4, s4, l4, _⟩ := app_any o3 b3.size C u cc (hC.low b3) (by omega)
  have b4 := l4 wr b3
  have b5 := b4.alloc b4.size (.cells #[.int .u8 c] 5)
  have hc : Rds (w4.alloc (.cells #[.int .u8 c] 5)) (some ⟨w4.heap.size, 0, none⟩) [c] := rds_blk (Blk.new w4 #[.int .u8 c] 5) [c] fun i x hx => by
    rcases i with _ | i
    · obtain rfl := Option.some.inj hx; rfl
    · cases hx
  obtain ⟨A5, c5, w5, r5, o5, s5, l5, _⟩ := app_any (o4.alloc (.cells #[.int .u8 c] 5)) b5.size (some ⟨w4.heap.size, 0, none⟩) [c] 1 hc (by rw [List.length_append]; simp; omega)
  obtain ⟨A6, c6, e6, hc6, hR6, _⟩ := own_rds o5
  injection e6 with e7 _ e8
  subst e7 e8
  rw [List.append_assoc] at hR6 hc6
  refine ⟨A3, A4, A5, c3, c4, c5, w3, w4, w5, r3, r4, fun ty => ?_, hR6, ?_, l5 wr b5⟩
  · have := r5 ty
    rw [List.length_append] at this
    exact this
  · rw [List.length_append, List.length_append] at hc6
    simp at hc6; omega
set_option maxRecDepth 100000 in
set_option maxHeartbeats 1000000 in
theorem rexpand_neg (A C : Option Addr) (k u ca cc : Nat) (n : Int) (hn : n < 0) (args : Array Value) (w : World) (h : args = #[.slice A k ca, .slice C u cc, .int .i64 n]) :
    Calls Tryd.prog 11 args w fun e w' => e = .returned (.tuple #[.slice none 0 0, .int .i64 1]) ∧ Below w.heap.size w w' := by
  subst h
  go_enter Tryd.func11, Tryd.ntmps11
  go_wp2
  go_ret2
  exact ⟨rfl, Below.refl _ w⟩
set_option maxRecDepth 100000 in
set_option maxHeartbeats 1000000 in
theorem rexpand_long (A C : Option Addr) (k u ca cc : Nat) (n : Int) (hn : 16320 < n) (args : Array Value) (w : World) (h : args = #[.slice A k ca, .slice C u cc, .int .i64 n]) :
    Calls Tryd.prog 11 args w fun e w' => e = .returned (.tuple #[.slice none 0 0, .int .i64 50]) ∧ Below w.heap.size w w' := by
  subst h
  have h0 : ¬ n < 0 := by omega
  go_enter Tryd.func11, Tryd.ntmps11
  go_wp2
  go_ret2
  exact ⟨rfl, Below.refl _ w⟩
set_option maxRecDepth 100000 in
set_option maxHeartbeats 2000000 in
theorem rexpand_any (A C : Option Addr) (k u : List Nat) (ca cc n : Nat) (w : World) (hn : n ≤ 16320) (hA : Rds w A k) (hca : k.length ≤ ca) (hk : ∀ x ∈ k, x < 256) (hC : Rds w C u) (hcc : u.length ≤ cc) (hu : ∀ x ∈ u, x < 256) (hs : k.length ≤ 500) (hs2 : u.length ≤ 500) :
    Calls Tryd.prog 11 #[.slice A k.length ca, .slice C u.length cc, .int .i64 (n : Int)] w fun e w' => ∃ A' c', e = .returned (.tuple #[.slice A' n c', .int .i64 0]) ∧ Rds w' A' (xp k u n) ∧ Below w.heap.size w w' := by
  have Hn := hide hn
  have HA := hide hA
  have Hca := hide hca
  have Hk := hide hk
  have HC := hide hC
  have Hcc := hide hcc
  have Hu := hide hu
  have Hs := hide hs
  have Hs2 := hide hs2
  clear hA hca hk hC hcc hu hs hs2
  have hn0 : ¬ (n : Int) < 0 := by omega
  have hn1 : ¬ (16320 : Int) < (n : Int) := by omega
  clear hn
  go_enter Tryd.func11, Tryd.ntmps11
  go_wp2
  go_loopw [8, 9, 10] (fun o l i wr => ∃ (j : Nat) (A1 A2 : Option Addr) (c1 c2 : Nat), 64 * j < n + 64 ∧ o = .slice A1 (tc k u j).length c1 ∧ l = .slice A2 (tb k u j).length c2 ∧ i = .int .i64 ((j + 1 : Nat) : Int) ∧ Own wr w.heap.size 5 o (bv8 (tc k u j)) ∧ Rds wr A2 (tb k u j) ∧ (tb k u j).length ≤ c2 ∧ Below w.heap.size w wr) (fun _ _ i _ => 300 - (intOf i).toNat)
  case atStart => exact ⟨0, none, none, 0, 0, by omega, rfl, rfl, rfl, own_nil w _ 5, Or.inl rfl, Nat.le_refl _, Below.refl _ w⟩
  case round =>
    obtain ⟨j, A1, A2, c1, c2, hj, rfl, rfl, rfl, O, R, hc2, L⟩ := hrel
    have hlen := tc_len k u j
    by_cases hlt : 64 * j < n
    · have hj2 : j < 255 := by have := Hn.out; omega
      obtain ⟨c, hc⟩ : ∃ c, c = j + 1 := ⟨_, rfl⟩
      have hcw : IntKind.u8.wrap (c : Int) = (c : Int) := by unfold IntKind.wrap; simp [IntKind.bits, IntKind.signed]; omega
      have Hnx := hide (tb_next k u j hj2)
      rw [← hc] at Hnx
      obtain ⟨f, hf⟩ : ∃ f, f = mc k (tb k u j ++ (u ++ [c])) := ⟨_, rfl⟩
      obtain ⟨t, ht⟩ : ∃ t, t = tb k u j := ⟨_, rfl⟩
      obtain ⟨s, hs⟩ : ∃ s, s = tc k u j := ⟨_, rfl⟩
      obtain ⟨q, hq⟩ : ∃ q, q = tb k u (j + 1) := ⟨_, rfl⟩
      have Hq : Hid (q = (List.range 64).map f) := hide (by rw [hq, ← hc, Hnx.out, hf])
      have Hql : Hid (q.length = 64) := hide (by rw [hq, tb_len])
      have Hsq : Hid (tc k u (j + 1) = s ++ q) := hide (by rw [hs, hq]; rfl)
      have Htl : Hid (t.length ≤ 64) := hide (by rw [ht]; exact tb_le k u j)
      have Htt : Hid (∀ x ∈ t, x < 256) := hide (by rw [ht]; exact tb_lt k u j)
      rw [← ht] at R hc2 hf Hnx
      rw [← hs] at O hlen
      rw [← ht, ← hs]
      obtain ⟨A3, A4, A5, c3, c4, c5, w3, w4, w5, r3, r4, r5, hR5, hc5, b5⟩ := txt3 wr A2 C t u c2 cc c R (HC.out.low L) Htl.out Hs2.out
      have hi : (s.length : Int) < (n : Int) := by omega
      have R3 := hide r3
      have R4 := hide r4
      have R5 := hide r5
      have S5 := hide hR5
      have C5 := hide hc5
      have B5 := hide b5
      have L5 := hide (keepLow2 L b5)
      have O5 := hide (O.low b5)
      have Hf := hide hf
      have Hc : Hid (c < 256) := hide (by omega)
      have Hlen : Hid ((t ++ (u ++ [c])).length = t.length + u.length + 1) := hide (by simp; omega)
      have Hlt : Hid (∀ x ∈ t ++ (u ++ [c]), x < 256) := hide (fun x hx => by
        rcases List.mem_append.1 hx with h | h
        · exact Htt.out x h
        · rcases List.mem_append.1 h with h | h
          · exact Hu.out x h
          · rw [List.mem_singleton.1 h]; exact Hc.out)
      have Hj := hide hlt
      have Hsl : Hid (s.length = 64 * j) := hide hlen
      have Hcj := hide hc
      have Hqq := hide hq
      rw [← hc]
      clear hlt hc hf ht hs hq O R L r3 r4 r5 hR5 hc5 b5 hlen hj hj2 hc2
      go_upto_region 11 with (first
        | (at_builtin; refine wpList_app rfl _ _ 23 rfl rfl rfl R3.out ?_; clear R3)
        | (at_builtin; refine wpList_app rfl _ _ 23 rfl rfl rfl R4.out ?_; clear R4)
        | (at_builtin; refine wpList_app rfl _ _ 23 rfl rfl rfl R5.out ?_; clear R5))
      have hz := zero24
      go_upto_region 13 with (first
        | (go_at_call 16; refine (rmac_f f A A5 k (t ++ (u ++ [c])) Hf.out ca c5 _ _ (by rw [Hlen.out]) (HA.out.low L5.out) Hca.out Hk.out (by have := Hs.out; omega) S5.out (by rw [Hlen.out]; exact C5.out) Hlt.out (by rw [Hlen.out]; have := Htl.out; have := Hs2.out; omega)).mono ?_; rintro e k6 ⟨rfl, hb⟩; have L6 := hide (keepLow2 L5.out hb); have O6 := hide (O5.out.low hb); clear hb L5 O5; dsimp only)
        | (refine wpList_store_abs rfl 27 _ _ rfl k6.heap.size (vals .u8 64 f) rfl rfl 27 _ (Blk.new k6 _ _) (by rw [vals_size]; exact cells24) (by simp only [vals_size]) (vals_one _ _ _) ?_; intro k7 Bn Sn; have D7 := hide Bn; have B7 := hide (Sn.low _ _ ((Below.refl _ k6).alloc (Nat.le_refl _) _) (Nat.le_refl _)); have L7 := hide (keepLow2 L6.out B7.out); have O7 := hide (O6.out.low B7.out); have Ne7 := hide (O6.out.ne k6.heap.size (Nat.le_refl _)); clear Bn Sn L6 O6 B7))
      clear hz
      generalize k6.heap.size = b at *
      have T7 := hide (rds_vals D7.out)
      rw [← Hq.out] at T7
      obtain ⟨A8, c8, w8, r8, o8, s8, l8, n8⟩ := app_any O7.out L7.out.size (some ⟨b, 0, none⟩) q 64 T7.out (by have := Hql.out; have := Hsl.out; have := Hj.out; have := Hn.out; omega)
      rw [Hql.out] at r8
      have R8 := hide r8
      have O8 := hide o8
      have L8 := hide (l8 w L7.out)
      have T8 := hide (rds_vals (n8 b _ _ D7.out Ne7.out))
      rw [← Hq.out] at T8
      have hcw2 : IntKind.i64.wrap ((c : Int) + 1) = ((c + 1 : Nat) : Int) := by rw [wrap_small _ (by omega) (by have := Hc.out; omega)]; omega
      clear r8 o8 s8 l8 n8
      go_wp2_with (at_builtin; refine wpList_app rfl _ _ 23 rfl rfl rfl R8.out ?_)
      go_roundw
      case rel =>
        refine ⟨j + 1, A8, some ⟨b, 0, none⟩, c8, 64, by have := Hj.out; omega, ?_, ?_, by rw [Hcj.out]; rfl, ?_, ?_, ?_, L8.out⟩
        · rw [Hsq.out, List.length_append, Hql.out]
        · rw [← Hqq.out, Hql.out]
        · rw [Hsq.out]
          have := O8.out
          rw [List.length_append, Hql.out] at this
          exact this
        · rw [← Hqq.out]; exact T8.out
        · rw [← Hqq.out, Hql.out]; exact Nat.le_refl _
      case measure =>
        have := Hcj.out
        have := Hc.out
        simp [intOf]; omega
    · obtain ⟨s, hs⟩ : ∃ s, s = tc k u j := ⟨_, rfl⟩
      rw [← hs] at O hlen
      rw [← hs]
      have hi : ¬ (s.length : Int) < (n : Int) := by omega
      obtain ⟨A6, c6, e6, hc6, hR6, _⟩ := own_rds O
      injection e6 with e7 _ e8
      subst e7 e8
      have hrt := run_top A1 s.length c1 n (by omega)
      have HR := hide (hR6.take n)
      rw [hs, xp_of k u n j (by omega)] at HR
      have HL := hide L
      clear hs O R L hR6 hc6 hc2 hlen hlt hj
      go_wp2
      go_ret2
      exact ⟨A1, ⟨c1, rfl⟩, HR.out, HL.out⟩
theorem rexpand_at (A C : Option Addr) (k u t : List Nat) (ca cc n : Nat) (args : Array Value) (w : World) (h : args = #[.slice A k.length ca, .slice C u.length cc, .int .i64 (n : Int)]) (ht : t = xp k u n) (hn : n ≤ 16320) (hA : Rds w A k) (hca : k.length ≤ ca) (hk : ∀ x ∈ k, x < 256) (hC : Rds w C u) (hcc : u.length ≤ cc) (hu : ∀ x ∈ u, x < 256) (hs : k.length ≤ 500) (hs2 : u.length ≤ 500) :
    Calls Tryd.prog 11 args w fun e w' => ∃ A' c', e = .returned (.tuple #[.slice A' n c', .int .i64 0]) ∧ Rds w' A' t ∧ Below w.heap.size w w' := by
  subst h ht; exact rexpand_any A C k u ca cc n w hn hA hca hk hC hcc hu hs hs2
end Go.Proofs.YtjnjedannpnjiaaDoor

/- Walks: ChachaTwice. The variable places as it is laid. -/
import Derived.Test.YtceaiclkpgbmaaaDoorAp
namespace Go.Proofs.YtceaiclkpgbmaaaDoor
set_option maxRecDepth 100000
open Go.RowKit Rg

theorem b_bs0 {a : Act} {o : Oper} (g : Nat → Nat) (ho : o.op = .buildSlice 26 0 #[]) (w : World) : (execOp a.eval o).run Tryd.prog w = .ok (.value (.slice (some ⟨w.heap.size, 0, none⟩) 0 0)) (w.alloc (.cells (vals .u8 0 g) 5)) := by unfold execOp; simp only [ho]; kernel_rfl
theorem b_eq3 {ρ : Operand → Value} {o : Oper} {x y : Operand} {k : Nat} (w : World) (ho : o.op = .binOp .eql 3 x y 3 := by rfl) (hx : ρ x = Nv .i64 k := by kernel_rfl) (hy : ρ y = Nv .i64 k := by kernel_rfl) : (execOp ρ o).run Tryd.prog w = .ok (.value (.bool true)) w := by
  unfold execOp
  simp only [ho, hx, hy]
  go_simp
theorem mx_lt {f : Nat → Nat} (hf : ∀ i, f i < 256) (n i : Nat) : mx f n i < 256 := by
  unfold mx
  split
  · exact hf i
  · exact Nat.zero_lt_succ _
theorem bv_li (l : List Nat) : bv8 l = (List.range l.length).map fun i => Value.int .u8 ((ge l (0 + i) : Nat) : Int) := by
  unfold bv8
  apply List.ext_getElem?
  intro i
  by_cases h : i < l.length
  · simp [ge, h]
  · rw [List.getElem?_eq_none (by simp; omega), List.getElem?_eq_none (by simp; omega)]
theorem li_mx (l : List Nat) : li l.length (fun j => mx (ge l) l.length (0 + j)) = l := by
  refine (li_congr _ _ (ge l) fun j hj => ?_).trans (li_ge l)
  unfold mx
  rw [Nat.zero_add, if_pos hj]
theorem ge_li (n : Nat) (f : Nat → Nat) (j : Nat) (hj : j < n) : ge (li n f) j = f j := by
  unfold ge li
  rw [List.getD_eq_getElem?_getD, List.getElem?_map, List.getElem?_range hj]; rfl
theorem li_two (key nonce : Nat → Nat) (cnt : Nat) (l : List Nat) : li l.length (fun j => sx key cnt nonce (ge (li l.length (sx key cnt nonce (ge l)))) (0 + j)) = l := by
  refine (li_congr _ _ (ge l) fun j hj => ?_).trans (li_ge l)
  rw [Nat.zero_add]
  have : sx key cnt nonce (ge (li l.length (sx key cnt nonce (ge l)))) j = sx key cnt nonce (sx key cnt nonce (ge l)) j := by
    unfold sx
    rw [ge_li _ _ _ hj]
  rw [this, sx_twice]
set_option maxHeartbeats 8000000 in
theorem twice_walk (key nonce : Nat → Nat) (hk : ∀ i, key i < 256) (hn : ∀ i, nonce i < 256) (cnt : Nat) (hc : cnt < 4294967296) (S : Option Addr) (l : List Nat) (c : Nat) (_ : l.length ≤ c) (hlb : ∀ x ∈ l, x < 256) (w : World) (hG : Gl w 0 (vals .i64 32 pl)) (hS : Rds w S l) : Ret 5 #[A (vals .u8 32 key), Nv .u32 cnt, A (vals .u8 12 nonce), .slice S l.length c] w (.bool true) := by
  have hG2 := hG
  have Hc := hide hc
  have Hlb := hide hlb
  have HS := hide hS
  obtain ⟨ln, hln⟩ : ∃ ln, Hid (l.length = ln) := ⟨_, hide rfl⟩
  rw [hln.out]
  clear hG hc hlb hS
  go_enter Tryd.func5, Tryd.ntmps5
  have hO := Own.start w
  go_upto_region 0 with (fail)
  refine Rg.ps [0, 1] (fun ν => [(4, D (ν 0)), (6, D (ν 1)), (8, .bool false)]) (OI w (fun s ν => [[], [((ν 0), vals .u8 32 key, 23)], [((ν 0), vals .u8 32 key, 23), ((ν 1), vals .u8 12 nonce, 25)]].getD s [])) (fun _ => 0) hO (Rg.ac (sn 0 (fun _ => vals .u8 32 key) 23 (fun _ w => run_box 23 _ rfl _ (by kernel_rfl) w) (fun _ => fit_b32 _)) (Rg.ac (sn 1 (fun _ => vals .u8 12 nonce) 25 (fun _ w => run_box 25 _ rfl _ (by kernel_rfl) w) (fun _ => fit_b12 _)) (Rg.ac nv Rg.an))) ?_
  intro ν w1 hO
  replace hO : Own w w1 [((ν 0), vals .u8 32 key, 23), ((ν 1), vals .u8 12 nonce, 25)] := hO
  simp only [Rg.putL, Act.put, List.setIfInBounds_toArray, List.set_cons_succ, List.set_cons_zero]
  generalize ν 0 = n4 at hO ⊢
  generalize ν 1 = n6 at hO ⊢
  clear ν
  go_upto_region 1 with (fail)
  refine Rg.ps [0] (fun _ => [(15, .bool true), (9, .bool true)]) (OI w (fun s ν => [[(n4, vals .u8 32 key, 23), (n6, vals .u8 12 nonce, 25)], [(n4, vals .u8 32 key, 23), (n6, vals .u8 12 nonce, 25)]].getD s [])) (fun _ => 0) hO (Rg.ac (sq 0 8 (fun _ => #[]) (fun _ => .bool true) (fun ν w hO => awake_c w (hG2.low hO.low))) (Rg.ac nv Rg.an)) ?_
  intro ν w2 hO
  replace hO : Own w w2 [(n4, vals .u8 32 key, 23), (n6, vals .u8 12 nonce, 25)] := hO
  simp only [Rg.putL, Act.put, List.setIfInBounds_toArray, List.set_cons_succ, List.set_cons_zero]
  clear ν
  by_cases hq : ln ≤ 1000
  · have h1 : ¬ 1000 < (ln : Int) := by omega
    obtain ⟨b, hb⟩ : ∃ b, Hid (b = ge l) := ⟨_, hide rfl⟩
    have hbl : ∀ i, b i < 256 := hb.out ▸ ge_lt Hlb.out
    have hml := mx_lt hbl ln
    have hmx : li ln (fun j => mx b ln (0 + j)) = l := by rw [hb.out, ← hln.out]; exact li_mx l
    have hsrc : ∀ w' : World, Below w.heap.size w w' → ∃ news : List Value, Src Tryd.prog 1 26 (.slice S ln c) news.length news w' ∧ news = (List.range ln).map fun i => Value.int .u8 ((b (0 + i) : Nat) : Int) := fun w' h => ⟨bv8 l, by rw [← hln.out]; exact src_rds c (HS.out.low h), by rw [hb.out, ← hln.out]; exact bv_li l⟩
    have hl30 : 0 + ln ≤ 2 ^ 30 := by omega
    have hs1 : l.length ≤ 2000 := by rw [hln.out]; omega
    go_upto_region 4 with (fail)
    clear h1
    refine Rg.ps [0, 2] (fun ν => [(20, .slice (some ⟨ν 0, 0, none⟩) 0 0), (21, .slice S ln c), (22, .slice (some ⟨ν 2, 0, none⟩) (0 + ln) (0 + ln + ν 102)), (10, .slice (some ⟨ν 2, 0, none⟩) (0 + ln) (0 + ln + ν 102))]) (OI w (fun s ν => [[(n4, vals .u8 32 key, 23), (n6, vals .u8 12 nonce, 25)], [(n4, vals .u8 32 key, 23), (n6, vals .u8 12 nonce, 25), ((ν 0), vals .u8 0 (mx b 0), 5)], [(n4, vals .u8 32 key, 23), (n6, vals .u8 12 nonce, 25), ((ν 2), vals .u8 (0 + ln + ν 102) (mx b (0 + ln)), 5)]].getD s [])) (fun _ => 0) hO (Rg.ac (sv 0 (fun _ q => .slice (some ⟨q, 0, none⟩) 0 0) (fun _ => vals .u8 0 (mx b 0)) 5 (fun _ w => b_bs0 _ rfl w) (fun _ => fit_sl _ _)) (Rg.ac nv (Rg.ac (sap 1 2 0 ln (fun ν => ν 0) (fun _ => 0) b (x := .tmp 20) (y := .tmp 21) (fun _ => Nat.le_refl _) hl30 (fun ν w hO => hsrc w hO.low)) (Rg.ac nv Rg.an)))) ?_
    intro ν w9 hO
    replace hO : Own w w9 [(n4, vals .u8 32 key, 23), (n6, vals .u8 12 nonce, 25), ((ν 2), vals .u8 (0 + ln + ν 102) (mx b (0 + ln)), 5)] := hO
    simp only [Rg.putL, Act.put, List.setIfInBounds_toArray, List.set_cons_succ, List.set_cons_zero]
    simp only [Nat.zero_add] at hO ⊢
    generalize ν 2 = n22 at hO ⊢
    generalize ν 102 = d at hO ⊢
    generalize ν 0 = n20 at ⊢
    replace hO : Own w w9 [(n4, vals .u8 32 key, 23), (n6, vals .u8 12 nonce, 25), (n22, vals .u8 (ln + d) (mx b ln), 5)] := hO
    clear ν hl30
    have hdl : 0 + ln ≤ ln + d := by omega
    by_cases hq2 : cnt + (ln + 63) / 64 ≤ 4294967296
    · obtain ⟨X, hX⟩ : ∃ X, Hid (X = sx key cnt nonce (ge l)) := ⟨_, hide rfl⟩
      obtain ⟨V, hV⟩ : ∃ V, Hid (V = sx key cnt nonce (ge (li l.length (sx key cnt nonce (ge l))))) := ⟨_, hide rfl⟩
      have hXl : ∀ i, X i < 256 := hX.out ▸ sx_lt (ge_lt Hlb.out)
      have hlx := li_lt ln X hXl
      have hVl : ∀ i, V i < 256 := hV.out ▸ sx_lt (ge_lt (li_lt _ _ (sx_lt (ge_lt Hlb.out))))
      have heq : li ln (fun j => V (0 + j)) = l := by rw [hV.out, ← hln.out]; exact li_two key nonce cnt l
      have hst1 : ∀ (w' : World) (L' : List Row) (j : Nat), Own w w' L' → L'[j]? = some (n22, vals .u8 (ln + d) (mx b ln), 5) → RetN 9 #[A (vals .u8 32 key), Nv .u32 cnt, A (vals .u8 12 nonce), .slice (some ⟨n22, 0, none⟩) ln (ln + d)] w' (fun q => .tuple #[.slice (some ⟨q, 0, none⟩) ln ln, .int .i64 0]) (vals .u8 ln X) 5 := fun w' L' j hO hj => by
        have hr := rds_part (hO.row j hj) hdl
        rw [hmx] at hr
        have := stream_c key nonce hk hn cnt Hc.out (some ⟨n22, 0, none⟩) l (ln + d) hs1 Hlb.out w' (hG2.low hO.low) hr (by rw [hln.out]; exact hq2)
        rw [hln.out, ← hX.out] at this
        exact this
      have hst2 : ∀ (w' : World) (L' : List Row) (q j : Nat), Own w w' L' → L'[j]? = some (q, vals .u8 ln X, 5) → RetN 9 #[A (vals .u8 32 key), Nv .u32 cnt, A (vals .u8 12 nonce), .slice (some ⟨q, 0, none⟩) ln ln] w' (fun q => .tuple #[.slice (some ⟨q, 0, none⟩) ln ln, .int .i64 0]) (vals .u8 ln V) 5 := fun w' L' q j hO hj => by
        have := stream_c key nonce hk hn cnt Hc.out (some ⟨q, 0, none⟩) (li ln X) ln (by rw [li_len, ← hln.out]; exact hs1) hlx w' (hG2.low hO.low) (rds_row (hO.row j hj)) (by rw [li_len]; exact hq2)
        rw [li_len] at this
        rw [hV.out, ← hX.out, hln.out]
        exact this
      clear hq2
      go_upto_region 5 with (fail)
      refine Rg.ps [4] (fun ν => [(24, A (vals .u8 32 key)), (25, Nv .u32 cnt), (26, A (vals .u8 12 nonce)), (27, .slice (some ⟨n22, 0, none⟩) ln (ln + d)), (28, .tuple #[.slice (some ⟨(ν 4), 0, none⟩) ln ln, .int .i64 0]), (23, .tuple #[.slice (some ⟨(ν 4), 0, none⟩) ln ln, .int .i64 0]), (29, .slice (some ⟨(ν 4), 0, none⟩) ln ln), (30, .int .i64 0), (11, .slice (some ⟨(ν 4), 0, none⟩) ln ln), (12, .int .i64 0)]) (OI w (fun s ν => [[(n4, vals .u8 32 key, 23), (n6, vals .u8 12 nonce, 25), (n22, vals .u8 (ln + d) (mx b ln), 5)], [(n4, vals .u8 32 key, 23), (n6, vals .u8 12 nonce, 25), (n22, vals .u8 (ln + d) (mx b ln), 5), ((ν 4), vals .u8 ln X, 5)]].getD s [])) (fun _ => 0) hO (Rg.ac (nld 0 0 0 (at1 0 fun _ => by kernel_rfl) Tryd.underlying23) (Rg.ac nv (Rg.ac (nld 0 0 1 (at1 0 fun _ => by kernel_rfl) Tryd.underlying25) (Rg.ac nv (Rg.ac (sf 0 9 (fun _ => #[A (vals .u8 32 key), Nv .u32 cnt, A (vals .u8 12 nonce), .slice (some ⟨n22, 0, none⟩) ln (ln + d)]) (fun ν q => .tuple #[.slice (some ⟨q, 0, none⟩) ln ln, .int .i64 0]) (fun _ => vals .u8 ln X) 5 (fun ν w hO => hst1 w _ 2 hO (by kernel_rfl)) (fun _ => fit_sl _ _)) (Rg.ac nv (Rg.ac nv (Rg.ac nv (Rg.ac nv (Rg.ac nv Rg.an)))))))))) ?_
      intro ν w3 hO
      replace hO : Own w w3 [(n4, vals .u8 32 key, 23), (n6, vals .u8 12 nonce, 25), (n22, vals .u8 (ln + d) (mx b ln), 5), ((ν 4), vals .u8 ln X, 5)] := hO
      simp only [Rg.putL, Act.put, List.setIfInBounds_toArray, List.set_cons_succ, List.set_cons_zero]
      generalize ν 4 = n28 at hO ⊢
      clear ν
      go_upto_region 8 with (fail)
      refine Rg.ps [4] (fun ν => [(44, A (vals .u8 32 key)), (45, Nv .u32 cnt), (46, A (vals .u8 12 nonce)), (47, .slice (some ⟨n28, 0, none⟩) ln ln), (48, .tuple #[.slice (some ⟨(ν 4), 0, none⟩) ln ln, .int .i64 0]), (43, .tuple #[.slice (some ⟨(ν 4), 0, none⟩) ln ln, .int .i64 0]), (49, .slice (some ⟨(ν 4), 0, none⟩) ln ln), (50, .int .i64 0), (13, .slice (some ⟨(ν 4), 0, none⟩) ln ln), (14, .int .i64 0)]) (OI w (fun s ν => [[(n4, vals .u8 32 key, 23), (n6, vals .u8 12 nonce, 25), (n22, vals .u8 (ln + d) (mx b ln), 5), (n28, vals .u8 ln X, 5)], [(n4, vals .u8 32 key, 23), (n6, vals .u8 12 nonce, 25), (n22, vals .u8 (ln + d) (mx b ln), 5), (n28, vals .u8 ln X, 5), ((ν 4), vals .u8 ln V, 5)]].getD s [])) (fun _ => 0) hO (Rg.ac (nld 0 0 0 (at1 0 fun _ => by kernel_rfl) Tryd.underlying23) (Rg.ac nv (Rg.ac (nld 0 0 1 (at1 0 fun _ => by kernel_rfl) Tryd.underlying25) (Rg.ac nv (Rg.ac (sf 0 9 (fun _ => #[A (vals .u8 32 key), Nv .u32 cnt, A (vals .u8 12 nonce), .slice (some ⟨n28, 0, none⟩) ln ln]) (fun ν q => .tuple #[.slice (some ⟨q, 0, none⟩) ln ln, .int .i64 0]) (fun _ => vals .u8 ln V) 5 (fun ν w hO => hst2 w _ n28 3 hO (by kernel_rfl)) (fun _ => fit_sl _ _)) (Rg.ac nv (Rg.ac nv (Rg.ac nv (Rg.ac nv (Rg.ac nv Rg.an)))))))))) ?_
      intro ν w4 hO
      replace hO : Own w w4 [(n4, vals .u8 32 key, 23), (n6, vals .u8 12 nonce, 25), (n22, vals .u8 (ln + d) (mx b ln), 5), (n28, vals .u8 ln X, 5), ((ν 4), vals .u8 ln V, 5)] := hO
      simp only [Rg.putL, Act.put, List.setIfInBounds_toArray, List.set_cons_succ, List.set_cons_zero]
      generalize ν 4 = n48 at hO ⊢
      clear ν
      go_upto_region 9 with (fail)
      refine Rg.ps [] (fun _ => [(51, .bool true), (52, .bool true), (53, .slice (some ⟨n48, 0, none⟩) ln ln), (54, .string (sk (li ln fun j => V (0 + j)))), (55, .slice S ln c), (56, .string (sk l)), (57, .bool true), (58, .bool true), (59, .bool true), (60, .int .i64 0), (61, .bool true), (62, .bool true), (63, .bool true), (64, .slice (some ⟨n22, 0, none⟩) ln (ln + d)), (65, .string (sk (li ln fun j => mx b ln (0 + j)))), (66, .slice S ln c), (67, .string (sk l)), (68, .bool true), (69, .bool true), (70, .bool true), (71, .slice (some ⟨n28, 0, none⟩) ln ln), (72, Nv .i64 ln), (73, .slice S ln c), (74, Nv .i64 ln), (75, .bool true), (76, .bool true), (8, .bool true)]) (OI w (fun _ _ => [(n4, vals .u8 32 key, 23), (n6, vals .u8 12 nonce, 25), (n22, vals .u8 (ln + d) (mx b ln), 5), (n28, vals .u8 ln X, 5), (n48, vals .u8 ln V, 5)])) (fun _ => 0) hO (Rg.ac nv (Rg.ac nv (Rg.ac nv (Rg.ac (nst 0 0 4 (fun _ => n48) 0 ln ln ln V hVl (by simp) (at1 0 fun _ => by kernel_rfl)) (Rg.ac nv (Rg.ac (nsr (c := c) HS.out Hlb.out hln.out) (Rg.ac (nx (fun _ => .bool true) (fun _ w => b_seq (congrArg sk heq) w)) (Rg.ac nv (Rg.ac nv (Rg.ac nv (Rg.ac nv (Rg.ac nv (Rg.ac nv (Rg.ac nv (Rg.ac (nst 0 0 2 (fun _ => n22) 0 ln (ln + d) (ln + d) (mx b ln) hml hdl (at1 0 fun _ => by kernel_rfl)) (Rg.ac nv (Rg.ac (nsr (c := c) HS.out Hlb.out hln.out) (Rg.ac (nx (fun _ => .bool true) (fun _ w => b_seq (congrArg sk hmx) w)) (Rg.ac nv (Rg.ac nv (Rg.ac nv (Rg.ac nv (Rg.ac nv (Rg.ac nv (Rg.ac (nx (fun _ => .bool true) (fun _ w => b_eq3 (k := ln) w)) (Rg.ac nv (Rg.ac nv Rg.an))))))))))))))))))))))))))) ?_
      intro ν w5 hO
      replace hO : Own w w5 [(n4, vals .u8 32 key, 23), (n6, vals .u8 12 nonce, 25), (n22, vals .u8 (ln + d) (mx b ln), 5), (n28, vals .u8 ln X, 5), (n48, vals .u8 ln V, 5)] := hO
      simp only [Rg.putL, Act.put, List.setIfInBounds_toArray, List.set_cons_succ, List.set_cons_zero]
      clear ν
      have HF := hide hO.low
      clear hO
      go_wp2_with (fail)
      go_ret
      exact ⟨rfl, HF.out⟩
    · have hse := fun w' => stream_e key nonce cnt Hc.out (some ⟨n22, 0, none⟩) ln (ln + d) (by omega) w' hq2
      clear hq2
      go_upto_region 5 with (fail)
      refine Rg.ps [4] (fun _ => [(24, A (vals .u8 32 key)), (25, Nv .u32 cnt), (26, A (vals .u8 12 nonce)), (27, .slice (some ⟨n22, 0, none⟩) ln (ln + d)), (28, .tuple #[.slice none 0 0, .int .i64 90]), (23, .tuple #[.slice none 0 0, .int .i64 90]), (29, .slice none 0 0), (30, .int .i64 90), (11, .slice none 0 0), (12, .int .i64 90)]) (OI w (fun s ν => [[(n4, vals .u8 32 key, 23), (n6, vals .u8 12 nonce, 25), (n22, vals .u8 (ln + d) (mx b ln), 5)], [(n4, vals .u8 32 key, 23), (n6, vals .u8 12 nonce, 25), (n22, vals .u8 (ln + d) (mx b ln), 5)]].getD s [])) (fun _ => 0) hO (Rg.ac (nld 0 0 0 (at1 0 fun _ => by kernel_rfl) Tryd.underlying23) (Rg.ac nv (Rg.ac (nld 0 0 1 (at1 0 fun _ => by kernel_rfl) Tryd.underlying25) (Rg.ac nv (Rg.ac (sc 0 9 (fun _ => #[A (vals .u8 32 key), Nv .u32 cnt, A (vals .u8 12 nonce), .slice (some ⟨n22, 0, none⟩) ln (ln + d)]) (fun _ => .tuple #[.slice none 0 0, .int .i64 90]) (fun _ => hse)) (Rg.ac nv (Rg.ac nv (Rg.ac nv (Rg.ac nv (Rg.ac nv Rg.an)))))))))) ?_
      intro ν w6 hO
      replace hO : Own w w6 [(n4, vals .u8 32 key, 23), (n6, vals .u8 12 nonce, 25), (n22, vals .u8 (ln + d) (mx b ln), 5)] := hO
      simp only [Rg.putL, Act.put, List.setIfInBounds_toArray, List.set_cons_succ, List.set_cons_zero]
      clear ν
      have HF := hide hO.low
      clear hO
      go_wp2_with (fail)
      go_ret
      exact ⟨rfl, HF.out⟩
  · have h1 : 1000 < (ln : Int) := by omega
    clear hq
    have HF := hide hO.low
    clear hO
    go_wp2_with (fail)
    go_ret
    exact ⟨rfl, HF.out⟩
end Go.Proofs.YtceaiclkpgbmaaaDoor

/- Walks: ChachaTells. The variable places as it is laid. -/
import Derived.Test.YtceaiclkpgbmaaaDoorRe
namespace Go.Proofs.YtceaiclkpgbmaaaDoor
set_option maxRecDepth 100000
open Go.RowKit Rg

theorem mx_lt {f : Nat → Nat} (hf : ∀ i, f i < 256) (n i : Nat) : mx f n i < 256 := by
  unfold mx
  split
  · exact hf i
  · exact Nat.zero_lt_succ _
theorem eq64 (f : Nat → Nat) (w : World) : (Op.equalIn 10000 30 (.agg (vals .u8 64 f)) (.agg (vals .u8 64 f))).run Tryd.prog w = .ok true w := by
  have h := run_equal_vals (P := Tryd.prog) w 9998 30 5 64 .u8 Tryd.underlying30 Tryd.underlying5 sz_u8 f f
  rw [h]
  congr 1
  simp
theorem b_eqa {ρ : Operand → Value} {o : Oper} {x y : Operand} {f : Nat → Nat} (w : World) (ho : o.op = .binOp .eql 30 x y 30 := by rfl) (hx : ρ x = A (vals .u8 64 f) := by kernel_rfl) (hy : ρ y = A (vals .u8 64 f) := by kernel_rfl) : (execOp ρ o).run Tryd.prog w = .ok (.value (.bool true)) w := by
  have h := eq64 f
  unfold execOp
  simp only [ho, hx, hy]
  go_simp
theorem b_nil {ρ : Operand → Value} {o : Oper} {x : Operand} (w : World) (ho : o.op = .convert 26 9 x := by rfl) (hx : ρ x = .slice none 0 0 := by kernel_rfl) : (execOp ρ o).run Tryd.prog w = .ok (.value (.string (sk []))) w :=
  b_str (A := none) (l := []) (n := 0) (c := 0) w (Or.inl rfl) (fun _ h => nomatch h) rfl ho hx
set_option maxHeartbeats 8000000 in
theorem tells_walk (key nonce : Nat → Nat) (hk : ∀ i, key i < 256) (hn : ∀ i, nonce i < 256) (cnt : Nat) (hc : cnt < 4294967296) (S : Option Addr) (l : List Nat) (c : Nat) (_ : l.length ≤ c) (hlb : ∀ x ∈ l, x < 256) (w : World) (hG : Gl w 0 (vals .i64 32 pl)) (hS : Rds w S l) : Ret 4 #[A (vals .u8 32 key), Nv .u32 cnt, A (vals .u8 12 nonce), .slice S l.length c] w (.bool true) := by
  have hG2 := hG
  have Hc := hide hc
  have Hlb := hide hlb
  have HS := hide hS
  obtain ⟨ln, hln⟩ : ∃ ln, Hid (l.length = ln) := ⟨_, hide rfl⟩
  rw [hln.out]
  clear hG hc hlb hS
  go_enter Tryd.func4, Tryd.ntmps4
  have hO := Own.start w
  go_upto_region 0 with (fail)
  refine Rg.ps [0, 1] (fun ν => [(4, D (ν 0)), (6, D (ν 1)), (8, .bool false)]) (OI w (fun s ν => [[], [((ν 0), vals .u8 32 key, 23)], [((ν 0), vals .u8 32 key, 23), ((ν 1), vals .u8 12 nonce, 25)]].getD s [])) (fun _ => 0) hO (Rg.ac (sn 0 (fun _ => vals .u8 32 key) 23 (fun _ w => run_box 23 _ rfl _ (by kernel_rfl) w) (fun _ => fit_b32 _)) (Rg.ac (sn 1 (fun _ => vals .u8 12 nonce) 25 (fun _ w => run_box 25 _ rfl _ (by kernel_rfl) w) (fun _ => fit_b12 _)) (Rg.ac nv Rg.an))) ?_
  intro ν w1 hO
  replace hO : Own w w1 [((ν 0), vals .u8 32 key, 23), ((ν 1), vals .u8 12 nonce, 25)] := hO
  simp only [Rg.putL, Act.put, List.setIfInBounds_toArray, List.set_cons_succ, List.set_cons_zero]
  generalize ν 0 = n4 at hO ⊢
  generalize ν 1 = n6 at hO ⊢
  clear ν
  go_upto_region 1 with (fail)
  refine Rg.ps [0] (fun _ => [(14, .bool true), (9, .bool true)]) (OI w (fun s ν => [[(n4, vals .u8 32 key, 23), (n6, vals .u8 12 nonce, 25)], [(n4, vals .u8 32 key, 23), (n6, vals .u8 12 nonce, 25)]].getD s [])) (fun _ => 0) hO (Rg.ac (sq 0 8 (fun _ => #[]) (fun _ => .bool true) (fun ν w hO => awake_c w (hG2.low hO.low))) (Rg.ac nv Rg.an)) ?_
  intro ν w2 hO
  replace hO : Own w w2 [(n4, vals .u8 32 key, 23), (n6, vals .u8 12 nonce, 25)] := hO
  simp only [Rg.putL, Act.put, List.setIfInBounds_toArray, List.set_cons_succ, List.set_cons_zero]
  clear ν
  by_cases hq : ln ≤ 1000
  · have h1 : ¬ 1000 < (ln : Int) := by omega
    have hs0 : ln ≤ 2000 := by omega
    have hs1 : l.length ≤ 2000 := by rw [hln.out]; exact hs0
    obtain ⟨K, hK⟩ : ∃ K, Hid (K = bk key cnt nonce) := ⟨_, hide rfl⟩
    have hb1 : ∀ w' : World, Below w.heap.size w w' → Ret 11 #[A (vals .u8 32 key), Nv .u32 cnt, A (vals .u8 12 nonce)] w' (A (vals .u8 64 K)) := fun w' h => hK.out ▸ block_c key nonce hk hn cnt Hc.out w' (hG2.low h)
    have hb2 : ∀ w' : World, Ret 12 #[A (vals .u8 32 key), Nv .u32 cnt, A (vals .u8 12 nonce)] w' (A (vals .u8 64 K)) := fun w' => hK.out ▸ rblock_c key nonce hk hn cnt Hc.out w'
    clear hq
    by_cases hq2 : cnt + (ln + 63) / 64 ≤ 4294967296
    · obtain ⟨X, hX⟩ : ∃ X, Hid (X = sx key cnt nonce (ge l)) := ⟨_, hide rfl⟩
      have hXl : ∀ i, X i < 256 := hX.out ▸ sx_lt (ge_lt Hlb.out)
      have hst1 : ∀ w' : World, Below w.heap.size w w' → RetN 9 #[A (vals .u8 32 key), Nv .u32 cnt, A (vals .u8 12 nonce), .slice S ln c] w' (fun q => .tuple #[.slice (some ⟨q, 0, none⟩) ln ln, .int .i64 0]) (vals .u8 ln X) 5 := fun w' h => by
        have := stream_c key nonce hk hn cnt Hc.out S l c hs1 Hlb.out w' (hG2.low h) (HS.out.low h) (by rw [hln.out]; exact hq2)
        rw [hln.out, ← hX.out] at this
        exact this
      have hq3 := hide hq2
      clear hq2
      go_upto_region 4 with (fail)
      clear h1
      refine Rg.ps [4] (fun ν => [(20, A (vals .u8 32 key)), (21, Nv .u32 cnt), (22, A (vals .u8 12 nonce)), (23, .slice S ln c), (24, .tuple #[.slice (some ⟨(ν 4), 0, none⟩) ln ln, .int .i64 0]), (19, .tuple #[.slice (some ⟨(ν 4), 0, none⟩) ln ln, .int .i64 0]), (25, .slice (some ⟨(ν 4), 0, none⟩) ln ln), (26, .int .i64 0), (10, .slice (some ⟨(ν 4), 0, none⟩) ln ln), (11, .int .i64 0)]) (OI w (fun s ν => [[(n4, vals .u8 32 key, 23), (n6, vals .u8 12 nonce, 25)], [(n4, vals .u8 32 key, 23), (n6, vals .u8 12 nonce, 25), ((ν 4), vals .u8 ln X, 5)]].getD s [])) (fun _ => 0) hO (Rg.ac (nld 0 0 0 (at1 0 fun _ => by kernel_rfl) Tryd.underlying23) (Rg.ac nv (Rg.ac (nld 0 0 1 (at1 0 fun _ => by kernel_rfl) Tryd.underlying25) (Rg.ac nv (Rg.ac (sf 0 9 (fun _ => #[A (vals .u8 32 key), Nv .u32 cnt, A (vals .u8 12 nonce), .slice S ln c]) (fun ν q => .tuple #[.slice (some ⟨q, 0, none⟩) ln ln, .int .i64 0]) (fun _ => vals .u8 ln X) 5 (fun ν w hO => hst1 w hO.low) (fun _ => fit_sl _ _)) (Rg.ac nv (Rg.ac nv (Rg.ac nv (Rg.ac nv (Rg.ac nv Rg.an)))))))))) ?_
      intro ν w3 hO
      replace hO : Own w w3 [(n4, vals .u8 32 key, 23), (n6, vals .u8 12 nonce, 25), ((ν 4), vals .u8 ln X, 5)] := hO
      simp only [Rg.putL, Act.put, List.setIfInBounds_toArray, List.set_cons_succ, List.set_cons_zero]
      generalize ν 4 = n24 at hO ⊢
      clear ν
      by_cases hz : ln = 0
      · have hrz : ∀ w' : World, Ret 10 #[A (vals .u8 32 key), Nv .u32 cnt, A (vals .u8 12 nonce), .slice S ln c] w' (.tuple #[.slice none 0 0, .int .i64 0]) := fun w' => by rw [hz]; exact rstream_z key nonce cnt Hc.out S c w'
        have heq : li ln (fun j => X (0 + j)) = [] := by rw [hz]; rfl
        clear hz
        go_upto_region 5 with (fail)
        refine Rg.ps [4] (fun _ => [(28, A (vals .u8 32 key)), (29, Nv .u32 cnt), (30, A (vals .u8 12 nonce)), (31, .slice S ln c), (32, .tuple #[.slice none 0 0, .int .i64 0]), (27, .tuple #[.slice none 0 0, .int .i64 0]), (33, .slice none 0 0), (34, .int .i64 0), (12, .slice none 0 0), (13, .int .i64 0)]) (OI w (fun s ν => [[(n4, vals .u8 32 key, 23), (n6, vals .u8 12 nonce, 25), (n24, vals .u8 ln X, 5)], [(n4, vals .u8 32 key, 23), (n6, vals .u8 12 nonce, 25), (n24, vals .u8 ln X, 5)]].getD s [])) (fun _ => 0) hO (Rg.ac (nld 0 0 0 (at1 0 fun _ => by kernel_rfl) Tryd.underlying23) (Rg.ac nv (Rg.ac (nld 0 0 1 (at1 0 fun _ => by kernel_rfl) Tryd.underlying25) (Rg.ac nv (Rg.ac (sc 0 10 (fun _ => #[A (vals .u8 32 key), Nv .u32 cnt, A (vals .u8 12 nonce), .slice S ln c]) (fun _ => .tuple #[.slice none 0 0, .int .i64 0]) (fun _ => hrz)) (Rg.ac nv (Rg.ac nv (Rg.ac nv (Rg.ac nv (Rg.ac nv Rg.an)))))))))) ?_
        intro ν w4 hO
        replace hO : Own w w4 [(n4, vals .u8 32 key, 23), (n6, vals .u8 12 nonce, 25), (n24, vals .u8 ln X, 5)] := hO
        simp only [Rg.putL, Act.put, List.setIfInBounds_toArray, List.set_cons_succ, List.set_cons_zero]
        clear ν
        go_upto_region 6 with (fail)
        refine Rg.pd [5, 9] (fun _ => [(35, .bool true), (36, .bool true), (37, A (vals .u8 32 key)), (38, Nv .u32 cnt), (39, A (vals .u8 12 nonce)), (40, A (vals .u8 64 K)), (41, A (vals .u8 32 key)), (42, Nv .u32 cnt), (43, A (vals .u8 12 nonce)), (44, A (vals .u8 64 K)), (45, .bool true), (46, .bool true), (47, .bool true), (48, .slice (some ⟨n24, 0, none⟩) ln ln), (49, .string (sk (li ln fun j => X (0 + j)))), (50, .slice none 0 0), (51, .string (sk [])), (52, .bool true), (53, .bool true), (54, .bool true), (55, .int .i64 0), (56, .int .i64 0), (57, .bool true), (58, .bool true), (8, .bool true)]) (OI w (fun s ν => [[(n4, vals .u8 32 key, 23), (n6, vals .u8 12 nonce, 25), (n24, vals .u8 ln X, 5)], [(n4, vals .u8 32 key, 23), (n6, vals .u8 12 nonce, 25), (n24, vals .u8 ln X, 5)], [(n4, vals .u8 32 key, 23), (n6, vals .u8 12 nonce, 25), (n24, vals .u8 ln X, 5)]].getD s [])) (fun _ => 0) hO.drew (Rg.ac nv (Rg.ac nv (Rg.ac (nld 0 0 0 (at1 0 fun _ => by kernel_rfl) Tryd.underlying23) (Rg.ac nv (Rg.ac (nld 0 0 1 (at1 0 fun _ => by kernel_rfl) Tryd.underlying25) (Rg.ac (sq 0 11 (fun _ => #[A (vals .u8 32 key), Nv .u32 cnt, A (vals .u8 12 nonce)]) (fun _ => A (vals .u8 64 K)) (fun ν w hO => hb1 w hO.low)) (Rg.ac (nld 0 1 0 (at2 0 1 (fun _ => by kernel_rfl) (at1 1 fun _ => by kernel_rfl)) Tryd.underlying23) (Rg.ac nv (Rg.ac (nld 0 1 1 (at2 0 1 (fun _ => by kernel_rfl) (at1 1 fun _ => by kernel_rfl)) Tryd.underlying25) (Rg.ac (sc 1 12 (fun _ => #[A (vals .u8 32 key), Nv .u32 cnt, A (vals .u8 12 nonce)]) (fun _ => A (vals .u8 64 K)) (fun _ => hb2)) (Rg.ac (nx (fun _ => .bool true) (fun _ w => b_eqa (f := K) w)) (Rg.ac nv (Rg.ac nv (Rg.ac nv (Rg.ac (nst 0 2 2 (fun _ => n24) 0 ln ln ln X hXl (by simp) (at2 0 2 (fun _ => by kernel_rfl) (at2 1 2 (fun _ => by kernel_rfl) (at1 2 fun _ => by kernel_rfl)))) (Rg.ac nv (Rg.ac (nx (fun _ => .string (sk [])) (fun _ w => b_nil w)) (Rg.ac (nx (fun _ => .bool true) (fun _ w => b_seq (congrArg sk heq) w)) (Rg.ac nv (Rg.ac nv (Rg.ac nv (Rg.ac nv (Rg.ac nv (Rg.ac nv (Rg.ac nv Rg.an))))))))))))))))))))))))) ?_
        intro ν w5 hO
        replace hO : Own w w5 [(n4, vals .u8 32 key, 23), (n6, vals .u8 12 nonce, 25), (n24, vals .u8 ln X, 5)] := hO
        simp only [Rg.putL, Act.put, List.setIfInBounds_toArray, List.set_cons_succ, List.set_cons_zero]
        clear ν
        have HF := hide hO.low
        clear hO
        go_wp2_with (fail)
        go_ret
        exact ⟨rfl, HF.out⟩
      · have hr1 : ∀ w' : World, Below w.heap.size w w' → RetM 10 #[A (vals .u8 32 key), Nv .u32 cnt, A (vals .u8 12 nonce), .slice S ln c] w' (fun q d => .tuple #[.slice (some ⟨q, 0, none⟩) ln (ln + d), .int .i64 0]) (fun d => vals .u8 (ln + d) (mx X ln)) := fun w' h => by
          have := rstream_c key nonce hk hn cnt Hc.out S l c (by rw [hln.out]; omega) hs1 Hlb.out w' (HS.out.low h) (by rw [hln.out]; exact hq3.out)
          rw [hln.out, ← hX.out] at this
          exact this
        have hml := mx_lt hXl ln
        have heq : li ln (fun j => X (0 + j)) = li ln (fun j => mx X ln (0 + j)) := li_congr _ _ _ fun j hj => by unfold mx; rw [Nat.zero_add, if_pos hj]
        clear hz
        go_upto_region 5 with (fail)
        refine Rg.ps [4] (fun ν => [(28, A (vals .u8 32 key)), (29, Nv .u32 cnt), (30, A (vals .u8 12 nonce)), (31, .slice S ln c), (32, .tuple #[.slice (some ⟨ν 4, 0, none⟩) ln (ln + ν 104), .int .i64 0]), (27, .tuple #[.slice (some ⟨ν 4, 0, none⟩) ln (ln + ν 104), .int .i64 0]), (33, .slice (some ⟨ν 4, 0, none⟩) ln (ln + ν 104)), (34, .int .i64 0), (12, .slice (some ⟨ν 4, 0, none⟩) ln (ln + ν 104)), (13, .int .i64 0)]) (OI w (fun s ν => [[(n4, vals .u8 32 key, 23), (n6, vals .u8 12 nonce, 25), (n24, vals .u8 ln X, 5)], [(n4, vals .u8 32 key, 23), (n6, vals .u8 12 nonce, 25), (n24, vals .u8 ln X, 5), ((ν 4), vals .u8 (ln + ν 104) (mx X ln), 5)]].getD s [])) (fun _ => 0) hO (Rg.ac (nld 0 0 0 (at1 0 fun _ => by kernel_rfl) Tryd.underlying23) (Rg.ac nv (Rg.ac (nld 0 0 1 (at1 0 fun _ => by kernel_rfl) Tryd.underlying25) (Rg.ac nv (Rg.ac (sf2 0 10 (fun _ => #[A (vals .u8 32 key), Nv .u32 cnt, A (vals .u8 12 nonce), .slice S ln c]) (fun q d => .tuple #[.slice (some ⟨q, 0, none⟩) ln (ln + d), .int .i64 0]) (fun d => vals .u8 (ln + d) (mx X ln)) (fun _ w hO => hr1 w hO.low) (fun _ => fit_sl _ _)) (Rg.ac nv (Rg.ac nv (Rg.ac nv (Rg.ac nv (Rg.ac nv Rg.an)))))))))) ?_
        intro ν w6 hO
        replace hO : Own w w6 [(n4, vals .u8 32 key, 23), (n6, vals .u8 12 nonce, 25), (n24, vals .u8 ln X, 5), ((ν 4), vals .u8 (ln + ν 104) (mx X ln), 5)] := hO
        simp only [Rg.putL, Act.put, List.setIfInBounds_toArray, List.set_cons_succ, List.set_cons_zero]
        generalize ν 4 = q9 at hO ⊢
        generalize ν 104 = d at hO ⊢
        replace hO : Own w w6 [(n4, vals .u8 32 key, 23), (n6, vals .u8 12 nonce, 25), (n24, vals .u8 ln X, 5), (q9, vals .u8 (ln + d) (mx X ln), 5)] := hO
        clear ν
        have hdl : 0 + ln ≤ ln + d := by omega
        go_upto_region 6 with (fail)
        refine Rg.pd [5, 9] (fun _ => [(35, .bool true), (36, .bool true), (37, A (vals .u8 32 key)), (38, Nv .u32 cnt), (39, A (vals .u8 12 nonce)), (40, A (vals .u8 64 K)), (41, A (vals .u8 32 key)), (42, Nv .u32 cnt), (43, A (vals .u8 12 nonce)), (44, A (vals .u8 64 K)), (45, .bool true), (46, .bool true), (47, .bool true), (48, .slice (some ⟨n24, 0, none⟩) ln ln), (49, .string (sk (li ln fun j => X (0 + j)))), (50, .slice (some ⟨q9, 0, none⟩) ln (ln + d)), (51, .string (sk (li ln fun j => mx X ln (0 + j)))), (52, .bool true), (53, .bool true), (54, .bool true), (55, .int .i64 0), (56, .int .i64 0), (57, .bool true), (58, .bool true), (8, .bool true)]) (OI w (fun s ν => [[(n4, vals .u8 32 key, 23), (n6, vals .u8 12 nonce, 25), (n24, vals .u8 ln X, 5), (q9, vals .u8 (ln + d) (mx X ln), 5)], [(n4, vals .u8 32 key, 23), (n6, vals .u8 12 nonce, 25), (n24, vals .u8 ln X, 5), (q9, vals .u8 (ln + d) (mx X ln), 5)], [(n4, vals .u8 32 key, 23), (n6, vals .u8 12 nonce, 25), (n24, vals .u8 ln X, 5), (q9, vals .u8 (ln + d) (mx X ln), 5)]].getD s [])) (fun _ => 0) hO.drew (Rg.ac nv (Rg.ac nv (Rg.ac (nld 0 0 0 (at1 0 fun _ => by kernel_rfl) Tryd.underlying23) (Rg.ac nv (Rg.ac (nld 0 0 1 (at1 0 fun _ => by kernel_rfl) Tryd.underlying25) (Rg.ac (sq 0 11 (fun _ => #[A (vals .u8 32 key), Nv .u32 cnt, A (vals .u8 12 nonce)]) (fun _ => A (vals .u8 64 K)) (fun ν w hO => hb1 w hO.low)) (Rg.ac (nld 0 1 0 (at2 0 1 (fun _ => by kernel_rfl) (at1 1 fun _ => by kernel_rfl)) Tryd.underlying23) (Rg.ac nv (Rg.ac (nld 0 1 1 (at2 0 1 (fun _ => by kernel_rfl) (at1 1 fun _ => by kernel_rfl)) Tryd.underlying25) (Rg.ac (sc 1 12 (fun _ => #[A (vals .u8 32 key), Nv .u32 cnt, A (vals .u8 12 nonce)]) (fun _ => A (vals .u8 64 K)) (fun _ => hb2)) (Rg.ac (nx (fun _ => .bool true) (fun _ w => b_eqa (f := K) w)) (Rg.ac nv (Rg.ac nv (Rg.ac nv (Rg.ac (nst 0 2 2 (fun _ => n24) 0 ln ln ln X hXl (by simp) (at2 0 2 (fun _ => by kernel_rfl) (at2 1 2 (fun _ => by kernel_rfl) (at1 2 fun _ => by kernel_rfl)))) (Rg.ac nv (Rg.ac (nst 0 2 3 (fun _ => q9) 0 ln (ln + d) (ln + d) (mx X ln) hml hdl (at2 0 2 (fun _ => by kernel_rfl) (at2 1 2 (fun _ => by kernel_rfl) (at1 2 fun _ => by kernel_rfl)))) (Rg.ac (nx (fun _ => .bool true) (fun _ w => b_seq (congrArg sk heq) w)) (Rg.ac nv (Rg.ac nv (Rg.ac nv (Rg.ac nv (Rg.ac nv (Rg.ac nv (Rg.ac nv Rg.an))))))))))))))))))))))))) ?_
        intro ν w7 hO
        replace hO : Own w w7 [(n4, vals .u8 32 key, 23), (n6, vals .u8 12 nonce, 25), (n24, vals .u8 ln X, 5), (q9, vals .u8 (ln + d) (mx X ln), 5)] := hO
        simp only [Rg.putL, Act.put, List.setIfInBounds_toArray, List.set_cons_succ, List.set_cons_zero]
        clear ν
        have HF := hide hO.low
        clear hO
        go_wp2_with (fail)
        go_ret
        exact ⟨rfl, HF.out⟩
    · have he1 := fun w' => stream_e key nonce cnt Hc.out S ln c hs0 w' hq2
      have he2 := fun w' => rstream_e key nonce cnt Hc.out S ln c hs0 w' hq2
      clear hq2
      go_upto_region 4 with (fail)
      clear h1
      refine Rg.ps [4] (fun _ => [(20, A (vals .u8 32 key)), (21, Nv .u32 cnt), (22, A (vals .u8 12 nonce)), (23, .slice S ln c), (24, .tuple #[.slice none 0 0, .int .i64 90]), (19, .tuple #[.slice none 0 0, .int .i64 90]), (25, .slice none 0 0), (26, .int .i64 90), (10, .slice none 0 0), (11, .int .i64 90)]) (OI w (fun s ν => [[(n4, vals .u8 32 key, 23), (n6, vals .u8 12 nonce, 25)], [(n4, vals .u8 32 key, 23), (n6, vals .u8 12 nonce, 25)]].getD s [])) (fun _ => 0) hO (Rg.ac (nld 0 0 0 (at1 0 fun _ => by kernel_rfl) Tryd.underlying23) (Rg.ac nv (Rg.ac (nld 0 0 1 (at1 0 fun _ => by kernel_rfl) Tryd.underlying25) (Rg.ac nv (Rg.ac (sc 0 9 (fun _ => #[A (vals .u8 32 key), Nv .u32 cnt, A (vals .u8 12 nonce), .slice S ln c]) (fun _ => .tuple #[.slice none 0 0, .int .i64 90]) (fun _ => he1)) (Rg.ac nv (Rg.ac nv (Rg.ac nv (Rg.ac nv (Rg.ac nv Rg.an)))))))))) ?_
      intro ν w8 hO
      replace hO : Own w w8 [(n4, vals .u8 32 key, 23), (n6, vals .u8 12 nonce, 25)] := hO
      simp only [Rg.putL, Act.put, List.setIfInBounds_toArray, List.set_cons_succ, List.set_cons_zero]
      clear ν
      go_upto_region 5 with (fail)
      refine Rg.ps [4] (fun _ => [(28, A (vals .u8 32 key)), (29, Nv .u32 cnt), (30, A (vals .u8 12 nonce)), (31, .slice S ln c), (32, .tuple #[.slice none 0 0, .int .i64 90]), (27, .tuple #[.slice none 0 0, .int .i64 90]), (33, .slice none 0 0), (34, .int .i64 90), (12, .slice none 0 0), (13, .int .i64 90)]) (OI w (fun s ν => [[(n4, vals .u8 32 key, 23), (n6, vals .u8 12 nonce, 25)], [(n4, vals .u8 32 key, 23), (n6, vals .u8 12 nonce, 25)]].getD s [])) (fun _ => 0) hO (Rg.ac (nld 0 0 0 (at1 0 fun _ => by kernel_rfl) Tryd.underlying23) (Rg.ac nv (Rg.ac (nld 0 0 1 (at1 0 fun _ => by kernel_rfl) Tryd.underlying25) (Rg.ac nv (Rg.ac (sc 0 10 (fun _ => #[A (vals .u8 32 key), Nv .u32 cnt, A (vals .u8 12 nonce), .slice S ln c]) (fun _ => .tuple #[.slice none 0 0, .int .i64 90]) (fun _ => he2)) (Rg.ac nv (Rg.ac nv (Rg.ac nv (Rg.ac nv (Rg.ac nv Rg.an)))))))))) ?_
      intro ν w9 hO
      replace hO : Own w w9 [(n4, vals .u8 32 key, 23), (n6, vals .u8 12 nonce, 25)] := hO
      simp only [Rg.putL, Act.put, List.setIfInBounds_toArray, List.set_cons_succ, List.set_cons_zero]
      clear ν
      go_upto_region 6 with (fail)
      refine Rg.pd [5, 9] (fun _ => [(35, .bool true), (36, .bool true), (37, A (vals .u8 32 key)), (38, Nv .u32 cnt), (39, A (vals .u8 12 nonce)), (40, A (vals .u8 64 K)), (41, A (vals .u8 32 key)), (42, Nv .u32 cnt), (43, A (vals .u8 12 nonce)), (44, A (vals .u8 64 K)), (45, .bool true), (46, .bool true), (47, .bool true), (48, .slice none 0 0), (49, .string (sk [])), (50, .slice none 0 0), (51, .string (sk [])), (52, .bool true), (53, .bool true), (54, .bool true), (55, .int .i64 90), (56, .int .i64 90), (57, .bool true), (58, .bool true), (8, .bool true)]) (OI w (fun s ν => [[(n4, vals .u8 32 key, 23), (n6, vals .u8 12 nonce, 25)], [(n4, vals .u8 32 key, 23), (n6, vals .u8 12 nonce, 25)], [(n4, vals .u8 32 key, 23), (n6, vals .u8 12 nonce, 25)]].getD s [])) (fun _ => 0) hO.drew (Rg.ac nv (Rg.ac nv (Rg.ac (nld 0 0 0 (at1 0 fun _ => by kernel_rfl) Tryd.underlying23) (Rg.ac nv (Rg.ac (nld 0 0 1 (at1 0 fun _ => by kernel_rfl) Tryd.underlying25) (Rg.ac (sq 0 11 (fun _ => #[A (vals .u8 32 key), Nv .u32 cnt, A (vals .u8 12 nonce)]) (fun _ => A (vals .u8 64 K)) (fun ν w hO => hb1 w hO.low)) (Rg.ac (nld 0 1 0 (at2 0 1 (fun _ => by kernel_rfl) (at1 1 fun _ => by kernel_rfl)) Tryd.underlying23) (Rg.ac nv (Rg.ac (nld 0 1 1 (at2 0 1 (fun _ => by kernel_rfl) (at1 1 fun _ => by kernel_rfl)) Tryd.underlying25) (Rg.ac (sc 1 12 (fun _ => #[A (vals .u8 32 key), Nv .u32 cnt, A (vals .u8 12 nonce)]) (fun _ => A (vals .u8 64 K)) (fun _ => hb2)) (Rg.ac (nx (fun _ => .bool true) (fun _ w => b_eqa (f := K) w)) (Rg.ac nv (Rg.ac nv (Rg.ac nv (Rg.ac (nx (fun _ => .string (sk [])) (fun _ w => b_nil w)) (Rg.ac nv (Rg.ac (nx (fun _ => .string (sk [])) (fun _ w => b_nil w)) (Rg.ac (nx (fun _ => .bool true) (fun _ w => b_seq (s := sk []) (t := sk []) rfl w)) (Rg.ac nv (Rg.ac nv (Rg.ac nv (Rg.ac nv (Rg.ac nv (Rg.ac nv (Rg.ac nv Rg.an))))))))))))))))))))))))) ?_
      intro ν w10 hO
      replace hO : Own w w10 [(n4, vals .u8 32 key, 23), (n6, vals .u8 12 nonce, 25)] := hO
      simp only [Rg.putL, Act.put, List.setIfInBounds_toArray, List.set_cons_succ, List.set_cons_zero]
      clear ν
      have HF := hide hO.low
      clear hO
      go_wp2_with (fail)
      go_ret
      exact ⟨rfl, HF.out⟩
  · have h1 : 1000 < (ln : Int) := by omega
    clear hq
    have HF := hide hO.low
    clear hO
    go_wp2_with (fail)
    go_ret
    exact ⟨rfl, HF.out⟩
end Go.Proofs.YtceaiclkpgbmaaaDoor

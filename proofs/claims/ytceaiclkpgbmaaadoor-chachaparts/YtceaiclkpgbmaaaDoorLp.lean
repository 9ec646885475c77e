/- Walks: ChachaParts. The variable places as it is laid. -/
import Derived.Test.YtceaiclkpgbmaaaDoorSm
import Derived.Test.YtceaiclkpgbmaaaDoorLz
namespace Go.Proofs.YtceaiclkpgbmaaaDoor
set_option maxRecDepth 100000
open Go.RowKit Rg

theorem b_slh {ρ : Operand → Value} {o : Oper} {x z : Operand} {A : Option Addr} {m n c : Nat} (hm : m ≤ n) (hc : n ≤ c) (w : World) (ho : o.op = .slice 26 x none (some z) none := by rfl) (hx : ρ x = .slice A n c := by kernel_rfl) (hz : ρ z = Nv .i64 m := by kernel_rfl) : (execOp ρ o).run Tryd.prog w = .ok (.value (.slice A m c)) w := by
  have h1 : (0 : Int) ≤ (m : Int) := by omega
  have h2 : (m : Int) ≤ (c : Int) := by omega
  unfold execOp
  rw [ho]
  dsimp only [Option.map]
  rw [hx, hz]
  go_simp
theorem b_sll {ρ : Operand → Value} {o : Oper} {x z : Operand} {A : Option Addr} {m n c : Nat} (hm : m ≤ n) (w : World) (ho : o.op = .slice 26 x (some z) none none := by rfl) (hx : ρ x = .slice A n c := by kernel_rfl) (hz : ρ z = Nv .i64 m := by kernel_rfl) : (execOp ρ o).run Tryd.prog w = .ok (.value (.slice (cutA A m c) (n - m) (c - m))) w := by
  have e := run_cut A n c m hm w
  unfold execOp
  rw [ho]
  dsimp only [Option.map]
  rw [hx, hz]
  go_simp
theorem b_c53 {ρ : Operand → Value} {o : Oper} {x : Operand} {k : Nat} (hk : k < 256) (w : World) (ho : o.op = .convert 5 3 x := by rfl) (hx : ρ x = Nv .u8 k := by kernel_rfl) : (execOp ρ o).run Tryd.prog w = .ok (.value (Nv .i64 k)) w := by
  have h1 := wi8 k hk
  unfold execOp
  simp only [ho, hx]
  go_simp
theorem b_rem20 {ρ : Operand → Value} {o : Oper} {x y : Operand} {k : Nat} (w : World) (ho : o.op = .binOp .rem 3 x y 3 := by rfl) (hx : ρ x = Nv .i64 k := by kernel_rfl) (hy : ρ y = .int .i64 20 := by kernel_rfl) : (execOp ρ o).run Tryd.prog w = .ok (.value (Nv .i64 (k % 20))) w := by
  have h1 : (k : Int).tmod 20 = ((k % 20 : Nat) : Int) := by rw [Int.tmod_eq_emod_of_nonneg (by omega)]; omega
  unfold execOp
  simp only [ho, hx, hy]
  go_simp
theorem b_m64r {ρ : Operand → Value} {o : Oper} {x y : Operand} {k : Nat} (hk : k < 1000) (w : World) (ho : o.op = .binOp .mul 3 x y 3 := by rfl) (hx : ρ x = Nv .i64 k := by kernel_rfl) (hy : ρ y = .int .i64 64 := by kernel_rfl) : (execOp ρ o).run Tryd.prog w = .ok (.value (Nv .i64 (k * 64))) w := by
  have h1 : IntKind.i64.wrap ((k : Int) * 64) = (k : Int) * 64 := by unfold IntKind.wrap; simp [IntKind.bits, IntKind.signed]; omega
  unfold execOp
  simp only [ho, hx, hy]
  go_simp
theorem b_min {ρ : Operand → Value} {o : Oper} {x y : Operand} {a c : Nat} (w : World) (ho : o.op = .call { callee := .builtin .min, args := #[x, y], argTypes := #[3, 3] } := by rfl) (hx : ρ x = Nv .i64 a := by kernel_rfl) (hy : ρ y = Nv .i64 c := by kernel_rfl) : (execOp ρ o).run Tryd.prog w = .ok (.value (Nv .i64 (min a c))) w := by
  have h0 : (min a c = a ∧ a ≤ c) ∨ (min a c = c ∧ ¬ a ≤ c) := by omega
  unfold execOp
  simp only [ho]
  rcases h0 with ⟨e, h⟩ | ⟨e, h⟩
  · have h1 : (a : Int) ≤ (c : Int) := by omega
    have h2 : ¬ (c : Int) < (a : Int) := by omega
    rw [e]
    go_simp
  · have h1 : ¬ (a : Int) ≤ (c : Int) := by omega
    have h2 : (c : Int) < (a : Int) := by omega
    rw [e]
    go_simp
theorem tm20 (m : Nat) : (m : Int).tmod 20 = ((m % 20 : Nat) : Int) := by rw [Int.tmod_eq_emod_of_nonneg (by omega)]; omega
theorem td64 (m : Nat) : (m : Int).tdiv 64 = ((m / 64 : Nat) : Int) := by rw [Int.tdiv_eq_ediv_of_nonneg (by omega)]; omega
theorem wi64 (m : Nat) (h : m < 100000) : IntKind.i64.wrap (m : Int) = (m : Int) := by unfold IntKind.wrap; simp [IntKind.bits, IntKind.signed]; omega
theorem wi64m (m : Nat) (h : m < 1000) : IntKind.i64.wrap ((m : Int) * 64) = (m : Int) * 64 ∧ IntKind.i64.wrap (64 * (m : Int)) = 64 * (m : Int) := by unfold IntKind.wrap; simp [IntKind.bits, IntKind.signed]; omega
/-- Bytes turned in two parts. -/
theorem sx_two (key nonce : Nat → Nat) (cnt : Nat) (l : List Nat) (n : Nat) (hn : n % 64 = 0) (hl : n ≤ l.length) :
    li l.length (sx key cnt nonce (ge l)) = li n (sx key cnt nonce (ge (l.take n))) ++ li (l.length - n) (sx key (ad cnt (n / 64)) nonce (ge (l.drop n))) := by
  apply List.ext_getElem?
  intro i
  by_cases h1 : i < n
  · rw [List.getElem?_append_left (by rw [li_len]; exact h1)]
    simp only [li, List.getElem?_map, List.getElem?_range h1, List.getElem?_range (show i < l.length by omega), Option.map_some]
    congr 1
    unfold sx ge
    simp only [List.getD_eq_getElem?_getD, List.getElem?_take, h1, if_true]
  · by_cases h2 : i < l.length
    · rw [List.getElem?_append_right (by rw [li_len]; omega), li_len]
      simp only [li, List.getElem?_map, List.getElem?_range h2, List.getElem?_range (show i - n < l.length - n by omega), Option.map_some]
      congr 1
      unfold sx ge ad
      simp only [List.getD_eq_getElem?_getD, List.getElem?_drop]
      rw [show n + (i - n) = i by omega, show i % 64 = (i - n) % 64 by omega, show (cnt + i / 64) % 4294967296 = ((cnt + n / 64) % 4294967296 + (i - n) / 64) % 4294967296 by
        rw [Nat.mod_add_mod]; congr 1; omega]
    · rw [List.getElem?_eq_none (by rw [li_len]; omega), List.getElem?_eq_none (by rw [List.length_append, li_len, li_len]; omega)]
set_option maxHeartbeats 8000000 in
theorem parts_walk (key nonce : Nat → Nat) (hk : ∀ i, key i < 256) (hn : ∀ i, nonce i < 256) (cnt : Nat) (hc : cnt < 4294967296) (S : Option Addr) (l : List Nat) (c : Nat) (hlc : l.length ≤ c) (hlb : ∀ x ∈ l, x < 256) (m : Nat) (hm : m < 256) (w : World) (hG : Gl w 0 (vals .i64 32 pl)) (hS : Rds w S l) : Ret 6 #[A (vals .u8 32 key), Nv .u32 cnt, A (vals .u8 12 nonce), .slice S l.length c, Nv .u8 m] w (.bool true) := by
  have hG2 := hG
  have Hc := hide hc
  have Hm := hide hm
  have Hlc := hide hlc
  have Hlb := hide hlb
  have HS := hide hS
  obtain ⟨ln, hln⟩ : ∃ ln, Hid (l.length = ln) := ⟨_, hide rfl⟩
  rw [hln.out]
  clear hG hc hm hlc hlb hS
  go_enter Tryd.func6, Tryd.ntmps6
  have hO := Own.start w
  go_upto_region 0 with (fail)
  refine Rg.ps [0, 1] (fun ν => [(5, D (ν 0)), (7, D (ν 1)), (10, .bool false)]) (OI w (fun s ν => [[], [((ν 0), vals .u8 32 key, 23)], [((ν 0), vals .u8 32 key, 23), ((ν 1), vals .u8 12 nonce, 25)]].getD s [])) (fun _ => 0) hO (Rg.ac (sn 0 (fun _ => vals .u8 32 key) 23 (fun _ w => run_box 23 _ rfl _ (by kernel_rfl) w) (fun _ => fit_b32 _)) (Rg.ac (sn 1 (fun _ => vals .u8 12 nonce) 25 (fun _ w => run_box 25 _ rfl _ (by kernel_rfl) w) (fun _ => fit_b12 _)) (Rg.ac nv Rg.an))) ?_
  intro ν w1 hO
  replace hO : Own w w1 [((ν 0), vals .u8 32 key, 23), ((ν 1), vals .u8 12 nonce, 25)] := hO
  simp only [Rg.putL, Act.put, List.setIfInBounds_toArray, List.set_cons_succ, List.set_cons_zero]
  generalize ν 0 = n5 at hO ⊢
  generalize ν 1 = n7 at hO ⊢
  clear ν
  go_upto_region 1 with (fail)
  refine Rg.ps [0] (fun _ => [(19, .bool true), (11, .bool true)]) (OI w (fun s ν => [[(n5, vals .u8 32 key, 23), (n7, vals .u8 12 nonce, 25)], [(n5, vals .u8 32 key, 23), (n7, vals .u8 12 nonce, 25)]].getD s [])) (fun _ => 0) hO (Rg.ac (sq 0 8 (fun _ => #[]) (fun _ => .bool true) (fun ν w hO => awake_c w (hG2.low hO.low))) (Rg.ac nv Rg.an)) ?_
  intro ν w2 hO
  replace hO : Own w w2 [(n5, vals .u8 32 key, 23), (n7, vals .u8 12 nonce, 25)] := hO
  simp only [Rg.putL, Act.put, List.setIfInBounds_toArray, List.set_cons_succ, List.set_cons_zero]
  clear ν
  by_cases hq : ln ≤ 1000 ∧ cnt < 2147483648
  · obtain ⟨hq1, hq2⟩ := hq
    have h1 : ¬ 1000 < (ln : Int) := by omega
    have h2 : ¬ 2147483648 ≤ (cnt : Int) := by omega
    obtain ⟨n, hnn⟩ : ∃ n, n = min (64 * (m % 20)) (ln / 64 * 64) := ⟨_, rfl⟩
    have a1l : m % 20 < 1000 := by omega
    have a2l : ln / 64 < 1000 := by omega
    have hl40 : ln < 2 ^ 40 := by omega
    have hn64 : n % 64 = 0 := by omega
    have hnl : n ≤ ln := by omega
    have hd4 : n < 2 ^ 40 := by omega
    have hd5 : n / 64 < 4294967296 := by omega
    have hs1 : l.length ≤ 2000 := by rw [hln.out]; omega
    have hs6 : (l.take n).length ≤ 2000 := by rw [List.length_take]; omega
    have hs7 : (l.drop n).length ≤ 2000 := by rw [List.length_drop]; omega
    have hs2 : cnt + (ln + 63) / 64 ≤ 4294967296 := by omega
    have hs3 : cnt + (n + 63) / 64 ≤ 4294967296 := by omega
    have hs4 : ad cnt (n / 64) + (ln - n + 63) / 64 ≤ 4294967296 := by unfold ad; rw [Nat.mod_eq_of_lt (by omega)]; omega
    have ht : (l.take n).length = n := by rw [List.length_take, hln.out]; omega
    have hdl : (l.drop n).length = ln - n := by rw [List.length_drop, hln.out]
    have hbc : n + (ln - n) ≤ 100000 := by omega
    obtain ⟨X, hX⟩ : ∃ X, Hid (X = sx key cnt nonce (ge l)) := ⟨_, hide rfl⟩
    obtain ⟨Y, hY⟩ : ∃ Y, Hid (Y = sx key cnt nonce (ge (l.take n))) := ⟨_, hide rfl⟩
    obtain ⟨V, hV⟩ : ∃ V, Hid (V = sx key (ad cnt (n / 64)) nonce (ge (l.drop n))) := ⟨_, hide rfl⟩
    have hXl : ∀ i, X i < 256 := hX.out ▸ sx_lt (ge_lt Hlb.out)
    have hYl : ∀ i, Y i < 256 := hY.out ▸ sx_lt (ge_lt fun x hx => Hlb.out x (List.mem_of_mem_take hx))
    have hVl : ∀ i, V i < 256 := hV.out ▸ sx_lt (ge_lt fun x hx => Hlb.out x (List.mem_of_mem_drop hx))
    have heq : li ln (fun j => X (0 + j)) = li n (fun j => Y (0 + j)) ++ li (ln - n) (fun j => V (0 + j)) := by simp only [Nat.zero_add]; rw [hX.out, hY.out, hV.out, ← hln.out]; exact sx_two key nonce cnt l n hn64 (by rw [hln.out]; exact hnl)
    have hst1 : ∀ w' : World, Below w.heap.size w w' → RetN 9 #[A (vals .u8 32 key), Nv .u32 cnt, A (vals .u8 12 nonce), .slice S ln c] w' (fun q => .tuple #[.slice (some ⟨q, 0, none⟩) ln ln, .int .i64 0]) (vals .u8 ln X) 5 := fun w' h => by
      have := stream_c key nonce hk hn cnt Hc.out S l c hs1 Hlb.out w' (hG2.low h) (HS.out.low h) (by rw [hln.out]; exact hs2)
      rw [hln.out, ← hX.out] at this
      exact this
    have hst2 : ∀ w' : World, Below w.heap.size w w' → RetN 9 #[A (vals .u8 32 key), Nv .u32 cnt, A (vals .u8 12 nonce), .slice S n c] w' (fun q => .tuple #[.slice (some ⟨q, 0, none⟩) n n, .int .i64 0]) (vals .u8 n Y) 5 := fun w' h => by
      have := stream_c key nonce hk hn cnt Hc.out S (l.take n) c hs6 (fun x hx => Hlb.out x (List.mem_of_mem_take hx)) w' (hG2.low h) ((HS.out.low h).take n) (by rw [ht]; exact hs3)
      rw [ht, ← hY.out] at this
      exact this
    have hst3 : ∀ w' : World, Below w.heap.size w w' → RetN 9 #[A (vals .u8 32 key), Nv .u32 (ad cnt (n / 64)), A (vals .u8 12 nonce), .slice (cutA S n c) (ln - n) (c - n)] w' (fun q => .tuple #[.slice (some ⟨q, 0, none⟩) (ln - n) (ln - n), .int .i64 0]) (vals .u8 (ln - n) V) 5 := fun w' h => by
      have := stream_c key nonce hk hn (ad cnt (n / 64)) (ad_lt _ _) (cutA S n c) (l.drop n) (c - n) hs7 (fun x hx => Hlb.out x (List.mem_of_mem_drop hx)) w' (hG2.low h) ((HS.out.low h).cut n c Hlc.out) (by rw [hdl]; exact hs4)
      rw [hdl, ← hV.out] at this
      exact this
    have hnc : ln ≤ c := by rw [← hln.out]; exact Hlc.out
    have Hm2 := Hm.out
    clear hs2 hs3 hs4 hs6 hs7 hs1
    go_upto_region 4 with (fail)
    clear h1 h2
    refine Rg.ps [] (fun _ => [(28, Nv .u8 m), (29, Nv .i64 m), (30, Nv .i64 (m % 20)), (31, Nv .i64 (64 * (m % 20))), (32, .slice S ln c), (33, Nv .i64 ln), (34, Nv .i64 (ln / 64)), (35, Nv .i64 (ln / 64 * 64)), (36, Nv .i64 (min (64 * (m % 20)) (ln / 64 * 64))), (12, Nv .i64 (min (64 * (m % 20)) (ln / 64 * 64)))]) (OI w (fun _ _ => [(n5, vals .u8 32 key, 23), (n7, vals .u8 12 nonce, 25)])) (fun _ => 0) hO (Rg.ac nv (Rg.ac (nx (fun _ => Nv .i64 m) (fun _ w => b_c53 Hm2 w)) (Rg.ac (nx (fun _ => Nv .i64 (m % 20)) (fun _ w => b_rem20 w)) (Rg.ac (nx (fun _ => Nv .i64 (64 * (m % 20))) (fun _ w => b_m64 a1l w)) (Rg.ac nv (Rg.ac nv (Rg.ac (nx (fun _ => Nv .i64 (ln / 64)) (fun _ w => b_quo64 hl40 w)) (Rg.ac (nx (fun _ => Nv .i64 (ln / 64 * 64)) (fun _ w => b_m64r a2l w)) (Rg.ac (nx (fun _ => Nv .i64 (min (64 * (m % 20)) (ln / 64 * 64))) (fun _ w => b_min w)) (Rg.ac nv Rg.an)))))))))) ?_
    intro ν w3 hO
    replace hO : Own w w3 [(n5, vals .u8 32 key, 23), (n7, vals .u8 12 nonce, 25)] := hO
    simp only [Rg.putL, Act.put, List.setIfInBounds_toArray, List.set_cons_succ, List.set_cons_zero]
    clear ν
    rw [← hnn]
    clear hnn
    go_upto_region 5 with (fail)
    refine Rg.ps [4] (fun ν => [(38, A (vals .u8 32 key)), (39, Nv .u32 cnt), (40, A (vals .u8 12 nonce)), (41, .slice S ln c), (42, .tuple #[.slice (some ⟨(ν 4), 0, none⟩) ln ln, .int .i64 0]), (37, .tuple #[.slice (some ⟨(ν 4), 0, none⟩) ln ln, .int .i64 0]), (43, .slice (some ⟨(ν 4), 0, none⟩) ln ln), (44, .int .i64 0), (13, .slice (some ⟨(ν 4), 0, none⟩) ln ln), (14, .int .i64 0)]) (OI w (fun s ν => [[(n5, vals .u8 32 key, 23), (n7, vals .u8 12 nonce, 25)], [(n5, vals .u8 32 key, 23), (n7, vals .u8 12 nonce, 25), ((ν 4), vals .u8 ln X, 5)]].getD s [])) (fun _ => 0) hO (Rg.ac (nld 0 0 0 (at1 0 fun _ => by kernel_rfl) Tryd.underlying23) (Rg.ac nv (Rg.ac (nld 0 0 1 (at1 0 fun _ => by kernel_rfl) Tryd.underlying25) (Rg.ac nv (Rg.ac (sf 0 9 (fun _ => #[A (vals .u8 32 key), Nv .u32 cnt, A (vals .u8 12 nonce), .slice S ln c]) (fun ν q => .tuple #[.slice (some ⟨q, 0, none⟩) ln ln, .int .i64 0]) (fun _ => vals .u8 ln X) 5 (fun ν w hO => hst1 w hO.low) (fun _ => fit_sl _ _)) (Rg.ac nv (Rg.ac nv (Rg.ac nv (Rg.ac nv (Rg.ac nv Rg.an)))))))))) ?_
    intro ν w4 hO
    replace hO : Own w w4 [(n5, vals .u8 32 key, 23), (n7, vals .u8 12 nonce, 25), ((ν 4), vals .u8 ln X, 5)] := hO
    simp only [Rg.putL, Act.put, List.setIfInBounds_toArray, List.set_cons_succ, List.set_cons_zero]
    generalize ν 4 = n42 at hO ⊢
    clear ν
    go_upto_region 6 with (fail)
    refine Rg.pd [6] (fun ν => [(46, A (vals .u8 32 key)), (47, Nv .u32 cnt), (48, A (vals .u8 12 nonce)), (49, .slice S ln c), (50, Nv .i64 n), (51, .slice S n c), (52, .tuple #[.slice (some ⟨(ν 6), 0, none⟩) n n, .int .i64 0]), (45, .tuple #[.slice (some ⟨(ν 6), 0, none⟩) n n, .int .i64 0]), (53, .slice (some ⟨(ν 6), 0, none⟩) n n), (54, .int .i64 0), (15, .slice (some ⟨(ν 6), 0, none⟩) n n), (16, .int .i64 0)]) (OI w (fun s ν => [[(n5, vals .u8 32 key, 23), (n7, vals .u8 12 nonce, 25), (n42, vals .u8 ln X, 5)], [(n5, vals .u8 32 key, 23), (n7, vals .u8 12 nonce, 25), (n42, vals .u8 ln X, 5), ((ν 6), vals .u8 n Y, 5)]].getD s [])) (fun _ => 0) hO.drew (Rg.ac (nld 0 0 0 (at1 0 fun _ => by kernel_rfl) Tryd.underlying23) (Rg.ac nv (Rg.ac (nld 0 0 1 (at1 0 fun _ => by kernel_rfl) Tryd.underlying25) (Rg.ac nv (Rg.ac nv (Rg.ac (nx (fun _ => .slice S n c) (fun _ w => b_slh hnl hnc w)) (Rg.ac (sf 0 9 (fun _ => #[A (vals .u8 32 key), Nv .u32 cnt, A (vals .u8 12 nonce), .slice S n c]) (fun ν q => .tuple #[.slice (some ⟨q, 0, none⟩) n n, .int .i64 0]) (fun _ => vals .u8 n Y) 5 (fun ν w hO => hst2 w hO.low) (fun _ => fit_sl _ _)) (Rg.ac nv (Rg.ac nv (Rg.ac nv (Rg.ac nv (Rg.ac nv Rg.an)))))))))))) ?_
    intro ν w5 hO
    replace hO : Own w w5 [(n5, vals .u8 32 key, 23), (n7, vals .u8 12 nonce, 25), (n42, vals .u8 ln X, 5), ((ν 6), vals .u8 n Y, 5)] := hO
    simp only [Rg.putL, Act.put, List.setIfInBounds_toArray, List.set_cons_succ, List.set_cons_zero]
    generalize ν 6 = n52 at hO ⊢
    clear ν
    go_upto_region 7 with (fail)
    refine Rg.pd [10] (fun ν => [(56, A (vals .u8 32 key)), (57, Nv .u32 cnt), (58, Nv .i64 n), (59, Nv .i64 (n / 64)), (60, Nv .u32 (n / 64)), (61, Nv .u32 (ad cnt (n / 64))), (62, A (vals .u8 12 nonce)), (63, .slice S ln c), (64, Nv .i64 n), (65, .slice (cutA S n c) (ln - n) (c - n)), (66, .tuple #[.slice (some ⟨(ν 10), 0, none⟩) (ln - n) (ln - n), .int .i64 0]), (55, .tuple #[.slice (some ⟨(ν 10), 0, none⟩) (ln - n) (ln - n), .int .i64 0]), (67, .slice (some ⟨(ν 10), 0, none⟩) (ln - n) (ln - n)), (68, .int .i64 0), (17, .slice (some ⟨(ν 10), 0, none⟩) (ln - n) (ln - n)), (18, .int .i64 0)]) (OI w (fun s ν => [[(n5, vals .u8 32 key, 23), (n7, vals .u8 12 nonce, 25), (n42, vals .u8 ln X, 5), (n52, vals .u8 n Y, 5)], [(n5, vals .u8 32 key, 23), (n7, vals .u8 12 nonce, 25), (n42, vals .u8 ln X, 5), (n52, vals .u8 n Y, 5), ((ν 10), vals .u8 (ln - n) V, 5)]].getD s [])) (fun _ => 0) hO.drew (Rg.ac (nld 0 0 0 (at1 0 fun _ => by kernel_rfl) Tryd.underlying23) (Rg.ac nv (Rg.ac nv (Rg.ac (nx (fun _ => Nv .i64 (n / 64)) (fun _ w => b_quo64 hd4 w)) (Rg.ac (nx (fun _ => Nv .u32 (n / 64)) (fun _ w => b_c32 hd5 w)) (Rg.ac (nx (fun _ => Nv .u32 (ad cnt (n / 64))) (fun _ w => b_add32 w)) (Rg.ac (nld 0 0 1 (at1 0 fun _ => by kernel_rfl) Tryd.underlying25) (Rg.ac nv (Rg.ac nv (Rg.ac (nx (fun _ => .slice (cutA S n c) (ln - n) (c - n)) (fun _ w => b_sll hnl w)) (Rg.ac (sf 0 9 (fun _ => #[A (vals .u8 32 key), Nv .u32 (ad cnt (n / 64)), A (vals .u8 12 nonce), .slice (cutA S n c) (ln - n) (c - n)]) (fun ν q => .tuple #[.slice (some ⟨q, 0, none⟩) (ln - n) (ln - n), .int .i64 0]) (fun _ => vals .u8 (ln - n) V) 5 (fun ν w hO => hst3 w hO.low) (fun _ => fit_sl _ _)) (Rg.ac nv (Rg.ac nv (Rg.ac nv (Rg.ac nv (Rg.ac nv Rg.an)))))))))))))))) ?_
    intro ν w6 hO
    replace hO : Own w w6 [(n5, vals .u8 32 key, 23), (n7, vals .u8 12 nonce, 25), (n42, vals .u8 ln X, 5), (n52, vals .u8 n Y, 5), ((ν 10), vals .u8 (ln - n) V, 5)] := hO
    simp only [Rg.putL, Act.put, List.setIfInBounds_toArray, List.set_cons_succ, List.set_cons_zero]
    generalize ν 10 = n66 at hO ⊢
    clear ν
    go_upto_region 8 with (fail)
    refine Rg.ps [] (fun _ => [(69, .bool true), (70, .bool true), (71, .int .i64 0), (72, .bool true), (73, .bool true), (74, .bool true), (75, .int .i64 0), (76, .bool true), (77, .bool true), (78, .bool true), (79, .int .i64 0), (80, .bool true), (81, .bool true), (82, .bool true), (83, .slice (some ⟨n42, 0, none⟩) ln ln), (84, .string (sk (li ln fun j => X (0 + j)))), (85, .slice (some ⟨n52, 0, none⟩) n n), (86, .string (sk (li n fun j => Y (0 + j)))), (87, .slice (some ⟨n66, 0, none⟩) (ln - n) (ln - n)), (88, .string (sk (li (ln - n) fun j => V (0 + j)))), (89, .string (sk (li n (fun j => Y (0 + j)) ++ li (ln - n) fun j => V (0 + j)))), (90, .bool true), (91, .bool true), (10, .bool true)]) (OI w (fun _ _ => [(n5, vals .u8 32 key, 23), (n7, vals .u8 12 nonce, 25), (n42, vals .u8 ln X, 5), (n52, vals .u8 n Y, 5), (n66, vals .u8 (ln - n) V, 5)])) (fun _ => 0) hO (Rg.ac nv (Rg.ac nv (Rg.ac nv (Rg.ac nv (Rg.ac nv (Rg.ac nv (Rg.ac nv (Rg.ac nv (Rg.ac nv (Rg.ac nv (Rg.ac nv (Rg.ac nv (Rg.ac nv (Rg.ac nv (Rg.ac nv (Rg.ac (nst 0 0 2 (fun _ => n42) 0 ln ln ln X hXl (by simp) (at1 0 fun _ => by kernel_rfl)) (Rg.ac nv (Rg.ac (nst 0 0 3 (fun _ => n52) 0 n n n Y hYl (by simp) (at1 0 fun _ => by kernel_rfl)) (Rg.ac nv (Rg.ac (nst 0 0 4 (fun _ => n66) 0 (ln - n) (ln - n) (ln - n) V hVl (by simp) (at1 0 fun _ => by kernel_rfl)) (Rg.ac (nx (fun _ => .string (sk (li n (fun j => Y (0 + j)) ++ li (ln - n) fun j => V (0 + j)))) (fun _ w => b_cat (by rw [li_len, li_len]; exact hbc) w)) (Rg.ac (nx (fun _ => .bool true) (fun _ w => b_seq (congrArg sk heq) w)) (Rg.ac nv (Rg.ac nv Rg.an)))))))))))))))))))))))) ?_
    intro ν w7 hO
    replace hO : Own w w7 [(n5, vals .u8 32 key, 23), (n7, vals .u8 12 nonce, 25), (n42, vals .u8 ln X, 5), (n52, vals .u8 n Y, 5), (n66, vals .u8 (ln - n) V, 5)] := hO
    simp only [Rg.putL, Act.put, List.setIfInBounds_toArray, List.set_cons_succ, List.set_cons_zero]
    clear ν
    have HF := hide hO.low
    clear hO
    go_wp2_with (fail)
    go_ret
    exact ⟨rfl, HF.out⟩
  · have h3 : ¬ (ln ≤ 1000) ∨ (ln ≤ 1000 ∧ ¬ cnt < 2147483648) := by omega
    have HF := hide hO.low
    clear hO
    rcases h3 with h3 | ⟨h3, h4⟩
    · have h1 : 1000 < (ln : Int) := by omega
      clear hq h3
      go_wp2_with (fail)
      go_ret
      exact ⟨rfl, HF.out⟩
    · have h1 : ¬ 1000 < (ln : Int) := by omega
      have h2 : 2147483648 ≤ (cnt : Int) := by omega
      clear hq h3 h4
      go_wp2_with (fail)
      go_ret
      exact ⟨rfl, HF.out⟩
end Go.Proofs.YtceaiclkpgbmaaaDoor

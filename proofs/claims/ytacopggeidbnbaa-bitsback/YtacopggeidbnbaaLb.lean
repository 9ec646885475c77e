/- The walk of BitsBack. No conditions. -/
import Derived.Test.YtacopggeidbnbaaCh
namespace Go.Proofs.Ytacopggeidbnbaa
set_option maxRecDepth 100000
open Go.RowKit Rg B


open W R
namespace B
theorem run_lda {P : Program} (w : World) (a : Addr) (ty : TypeId) (cs : List Value) (d : TypeDesc) (hc : ∀ j v, cs[j]? = some v → w.cell? (a.add j) = some v) (hu : P.underlying ty = some d) (hd : d.isRow = true) (hi : (P.info? ty).map (·.size) = some cs.length) : (loadVar ty a).run P w = .ok (.agg cs.toArray) w := by
  have hl : (loadCells a cs.length).run P w = .ok cs.toArray w := run_loadCells_list (P := P) w a cs hc
  cases hq : P.info? ty with
  | none => simp [hq] at hi
  | some i =>
    have hs : i.size = cs.length := by simpa [hq] using hi
    have hagg : (isAgg ty).run P w = .ok true w := by
      unfold isAgg
      rw [Sem.run_bind, run_underlying hu w]
      cases d <;> simp_all
    simp [loadVar, Sem.run_bind, hagg, sizeOf, typeInfo, hq, hs, hl]
section
variable {o o2 : Oper} {a : Act} {u w : World} {L : List Row} {Q : Exit → Act → World → Prop} {ops : Array Oper} {rest : List Oper}
/-- Cells loaded together from anywhere. -/
theorem g_lr {ty : TypeId} {x : Operand} {ad : Addr} (c : Array Value) (hc : ∀ j v, c.toList[j]? = some v → w.cell? (ad.add j) = some v) {d : TypeDesc} (hu : Try.prog.underlying ty = some d) (hi : (Try.prog.info? ty).map (·.size) = some c.toList.length) (h : WL ops Q rest (a.put o.dst (.agg c)) w) (ho : o.op = .load ty x := by rfl) (hx : a.eval x = .pointer (some ad) := by kernel_rfl) (hd : d.isRow = true := by rfl) (hg : Region.wanted o (yielded ops a.tmps) = true := by kernel_rfl) : WL ops Q (o :: rest) a w :=
  g_run _ w (by
    have := run_lda (P := Try.prog) w ad ty c.toList d hc hu hd hi
    unfold execOp
    simp only [ho, hx, Instr.loadAt, Instr.sureAddr, Sem.run_bind, Sem.run_pure, Result.andThen_ok, this]) h hg
end
end B
namespace B
theorem b_ixg {ρ : Operand → Value} {o : Oper} {x y : Operand} {q k n c : Nat} (hk : k < n) (w : World) (ho : o.op = .indexAddr 23 x y := by rfl) (hx : ρ x = .slice (some ⟨q, 0, none⟩) n c := by kernel_rfl) (hy : ρ y = Nv .i64 k := by kernel_rfl) : (execOp ρ o).run Try.prog w = .ok (.value (E q (k * 3))) w := by
  have h := b_ix (a := ⟨q, 0, none⟩) (s := 3) hk Try.underlying23 W.sz_call w ho hx hy
  rw [Addr.add_mid, Nat.zero_add] at h
  exact h
end B
namespace W
abbrev zvC : Value := .agg #[.int .u64 0, .int .i64 0, .bool false]
theorem el_c : El 23 37 3 zvC := ⟨Try.underlying23, by kernel_rfl, by kernel_rfl, rfl, by decide, rfl, by simp [Value.cells]; exact ⟨rfl, rfl, rfl⟩⟩
/-- The numbers that were put, in a row of one's own or in none. -/
def Mg (M' : List Row) (S : Option Addr) (n cc : Nat) (g : Nat → Value) : Prop := (n = 0 ∧ S = none ∧ cc = 0 ∧ M' = []) ∨ ∃ q d, S = some ⟨q, 0, none⟩ ∧ cc = n + d ∧ M' = [(q, cl (zc 3 zvC) ((n + d) * 3) (n * 3) g, 37)]
theorem mg_gr {u w : World} {M' : List Row} {N X c n cc : Nat} {S : Option Addr} {g : Nat → Value} (hM : Mg M' S n cc g) (h : WrS u w M' N X c) : ∃ L, Gr u w L 37 3 zvC n g (.slice S n cc) ∧ ∀ w' M2, Own u w' (L ++ M2) → WrS u w' M2 N X c := by
  obtain ⟨hX, p, C, hO, hC⟩ := h
  refine ⟨(N, wc p (op X c) c, 28) :: C, ?_, fun w' M2 h => ⟨hX, p, C, h, hC⟩⟩
  rcases hM with ⟨rfl, rfl, rfl, rfl⟩ | ⟨q, d, rfl, rfl, rfl⟩
  · rw [List.append_nil] at hO
    exact .inl ⟨rfl, rfl, hO⟩
  · exact .inr ⟨q, d, rfl, hO⟩
/-- What was put, number by number. -/
structure Good (X c n : Nat) (V b o : Nat → Nat) : Prop where
  zero : o 0 = 0
  last : o n = c
  each : ∀ j, j < n → b j ≤ 32 ∧ o (j + 1) = o j + b j ∧ o j + b j ≤ c ∧ M.tk X (o j) (b j) = V j
def ex {α : Type} (f : Nat → α) (n : Nat) (x : α) (j : Nat) : α := if j = n then x else f j
theorem ex_at {α : Type} (f : Nat → α) (n : Nat) (x : α) : ex f n x n = x := by unfold ex; rw [if_pos rfl]
theorem ex_ne {α : Type} (f : Nat → α) {n j : Nat} (x : α) (h : j ≠ n) : ex f n x j = f j := by unfold ex; rw [if_neg h]
theorem Good.nil : Good 0 0 0 (fun _ => 0) (fun _ => 0) (fun _ => 0) := ⟨rfl, rfl, fun j h => absurd h (Nat.not_lt_zero j)⟩
theorem Good.snoc {X c n v m : Nat} {V b o : Nat → Nat} (h : Good X c n V b o) (hX : X < 2 ^ c) (hv : v < 2 ^ m) (hm : m ≤ 32) : Good (X + v * 2 ^ c) (c + m) (n + 1) (ex V n v) (ex b n m) (ex o (n + 1) (c + m)) := by
  refine ⟨by rw [ex_ne _ _ (by omega)]; exact h.zero, ex_at _ _ _, fun j hj => ?_⟩
  by_cases hn : j = n
  · subst hn
    rw [ex_at, ex_at, ex_at, ex_ne _ _ (by omega), h.last]
    exact ⟨hm, rfl, Nat.le_refl _, M.tk_put _ _ hX hv⟩
  · obtain ⟨h1, h2, h3, h4⟩ := h.each j (by omega)
    rw [ex_ne _ _ hn, ex_ne _ _ hn, ex_ne _ _ (by omega), ex_ne _ _ (by omega)]
    exact ⟨h1, h2, by omega, by rw [M.tk_keep _ h3]; exact h4⟩
theorem cf_ex {V b : Nat → Nat} {P : Nat → Bool} {n v m : Nat} {p : Bool} {i : Nat} (h : i < n * 3) : cf V (fun j => ((b j : Nat) : Int)) P i = cf (ex V n v) (fun j => ((ex b n m j : Nat) : Int)) (ex P n p) i := by
  unfold cf
  have hn : i / 3 ≠ n := by omega
  simp only [ex_ne _ _ hn]
theorem cf_new {V b : Nat → Nat} {P : Nat → Bool} {n v m : Nat} {p : Bool} {i : Nat} (h : i < 3) : #[Value.int .u64 ((v : Nat) : Int), .int .i64 ((m : Nat) : Int), .bool p][i]? = some (cf (ex V n v) (fun j => ((ex b n m j : Nat) : Int)) (ex P n p) (n * 3 + i)) := by
  obtain rfl | rfl | rfl : i = 0 ∨ i = 1 ∨ i = 2 := by omega
  · rw [Nat.add_zero, cf_0, ex_at]; rfl
  · rw [cf_1, ex_at]; rfl
  · rw [cf_2, ex_at]; rfl
set_option maxHeartbeats 8000000 in
theorem back_walk {S : Option Addr} {n : Nat} {V : Nat → Nat} {Z : Nat → Int} {P : Nat → Bool} {w : World} (hs : Sc w S n V Z P) (c0 : Nat) : Ret 6 #[.slice S n c0] w (.bool true) := by
  go_enter Try.func6, Try.ntmps6
  have hO := Own.start w
  go_upto_region 0 with (fail)
  refine wp_region_list (WL.out ?_)
  refine g_val (.bool false) ?_
  refine g_nil ?_
  simp only [Act.put, List.setIfInBounds_toArray, List.set_cons_succ, List.set_cons_zero]
  go_upto_region 1 with (fail)
  refine wp_region_list (WL.out ?_)
  refine g_call hO 9 #[] (.bool true) (awake_c w) ?_
  intro w1 hb15 hO
  refine g_val (.bool true) ?_
  refine g_nil ?_
  simp only [Act.put, List.setIfInBounds_toArray, List.set_cons_succ, List.set_cons_zero]
  go_upto_region 2 with (fail)
  refine wp_region_list (WL.out ?_)
  refine g_val (.bool true) ?_
  refine g_val (.bool false) ?_
  refine g_nil ?_
  simp only [Act.put, List.setIfInBounds_toArray, List.set_cons_succ, List.set_cons_zero]
  go_upto_region 4 with (fail)
  refine wp_region_list (WL.out ?_)
  refine g_val (A (wc none (fun _ => 0) 0)) ?_ (run_bd 28 _ rfl [] (by kernel_rfl) _ wc_zero w1)
  refine g_new hO D (wc none (fun _ => 0) 0) 28 (wc_fit _ _ _) (run_box 28 _ rfl _ (by kernel_rfl) w1) ?_
  intro n19 w2 _ hO
  replace hO : Own w w2 [(n19, wc none (fun _ => 0) 0, 28)] := hO
  refine g_val (D n19) ?_
  refine g_nil ?_
  simp only [Act.put, List.setIfInBounds_toArray, List.set_cons_succ, List.set_cons_zero]
  go_upto_region 5 with (fail)
  refine wp_region_list (WL.out ?_)
  refine g_val (.slice none 0 0) ?_
  refine g_nil ?_
  simp only [Act.put, List.setIfInBounds_toArray, List.set_cons_succ, List.set_cons_zero]
  go_upto_region 6 with (fail)
  refine wp_region_list (WL.out ?_)
  refine g_val (Nv .i64 0) ?_
  refine g_nil ?_
  simp only [Act.put, List.setIfInBounds_toArray, List.set_cons_succ, List.set_cons_zero]
  have HW := hide (WrS.new (M' := []) hO)
  clear hO
  go_wp2_with (fail)
  go_loopw [5, 6] (fun x5 x6 wr => ∃ (k X c n1 cc : Nat) (S1 : Option Addr) (M1 : List Row) (V1 b1 o1 : Nat → Nat) (P1 : Nat → Bool), k ≤ n ∧ k ≤ 100 ∧ x5 = .slice S1 n1 cc ∧ x6 = .int .i64 (k : Int) ∧ c ≤ 32 * k ∧ n1 ≤ k ∧ Good X c n1 V1 b1 o1 ∧ (∀ j, j < n1 → V1 j < 18446744073709551616) ∧ Mg M1 S1 n1 cc (cf V1 (fun j => ((b1 j : Nat) : Int)) P1) ∧ WrS w wr M1 n19 X c) (fun _ x6 _ => 100 - (intOf x6).toNat)
  case atStart => exact ⟨0, 0, 0, 0, 0, none, [], fun _ => 0, fun _ => 0, fun _ => 0, fun _ => false, Nat.zero_le _, Nat.zero_le _, rfl, rfl, Nat.le_refl _, Nat.le_refl _, Good.nil, (fun j h => absurd h (Nat.not_lt_zero j)), .inl ⟨rfl, rfl, rfl, rfl⟩, HW.out⟩
  case round =>
    clear HW
    obtain ⟨k, X, c, n1, cc, S1, M1, V1, b1, o1, P1, hkn, hk100, rfl, rfl, hck, hn1k, hGo, hV1, hM, hW⟩ := hrel
    have HW := hide hW
    have HM := hide hM
    have HGo := hide hGo
    have HV := hide hV1
    clear hW hM hGo hV1
    by_cases hz : k < n ∧ k < 100
    · have hc39 : c < 2 ^ 39 := by omega
      have hvl := hs.lt k hz.1
      obtain ⟨a, rfl, hv, hb, hp⟩ := hs.at (show k < n by omega)
      obtain ⟨ad, had⟩ : ∃ ad, Hid (a.add (k * 3) = ad) := ⟨_, hide rfl⟩
      rw [had.out] at hv hb hp
      go_upto_region 7 with (fail)
      refine wp_region_list (WL.out ?_)
      refine g_val (Nv .i64 k) ?_
      refine g_val (.slice (some a) n c0) ?_
      refine g_val (Nv .i64 n) ?_
      refine g_val (.bool true) ?_ (B.lss_int (a := k) (c := n) (b := true) (decide_eq_true hz.1) wr)
      refine g_val (.bool true) ?_
      refine g_val (Nv .i64 k) ?_
      refine g_val (.bool true) ?_ (B.lss_int (a := k) (c := 100) (b := true) (decide_eq_true hz.2) wr)
      refine g_val (.bool true) ?_
      refine g_nil ?_
      simp only [Act.put, List.setIfInBounds_toArray, List.set_cons_succ, List.set_cons_zero]
      obtain ⟨v, hvk⟩ : ∃ v, V k = v := ⟨_, rfl⟩
      obtain ⟨b, hbk⟩ : ∃ b, Z k = b := ⟨_, rfl⟩
      obtain ⟨p9, hpk⟩ : ∃ p9, P k = p9 := ⟨_, rfl⟩
      rw [hvk] at hv hvl
      rw [hbk] at hb
      rw [hpk] at hp
      clear hvk hbk hpk
      by_cases hok : okB v b = true
      · have hE : nE v b = 0 := by unfold nE; rw [if_pos hok]
        go_upto_region 9 with (fail)
        refine Rg.pd [11] (fun _ => [(30, D n19), (31, .slice (some a) n c0), (32, Nv .i64 k), (33, .pointer (some ad)), (34, .pointer (some ad)), (35, Nv .u64 v), (36, .slice (some a) n c0), (37, Nv .i64 k), (38, .pointer (some ad)), (39, .pointer (some (ad.add 1))), (40, .int .i64 b), (41, Nv .i64 (nE v b)), (42, .bool true)]) (PI [fun wz => WrS w wz M1 n19 X c, fun wz => WrS w wz M1 n19 (nX X c v b) (nC c v b)]) (fun _ => 0) (HW.out.drew) (Rg.ac nv (Rg.ac nv (Rg.ac nv (Rg.ac (nx (fun _ => .pointer (some ad)) (fun _ w => had.out ▸ b_ix (n := n) (c := c0) (k := k) (s := 3) (show k < n by omega) Try.underlying23 sz_call w)) (Rg.ac nv (Rg.ac (kca (Nv .u64 v) (fun s _ w2 h => match s, h with | 0, h => WrS.low h | 1, h => WrS.low h | _ + 2, h => h.elim) (hv) B.agg_u64) (Rg.ac nv (Rg.ac nv (Rg.ac (nx (fun _ => .pointer (some ad)) (fun _ w => had.out ▸ b_ix (n := n) (c := c0) (k := k) (s := 3) (show k < n by omega) Try.underlying23 sz_call w)) (Rg.ac nv (Rg.ac (kca (.int .i64 b) (fun s _ w2 h => match s, h with | 0, h => WrS.low h | 1, h => WrS.low h | _ + 2, h => h.elim) (hb) B.agg_int) (Rg.ac (kc 0 10 (fun _ => #[D n19, Nv .u64 v, .int .i64 b]) (fun _ => Nv .i64 (nE v b)) (fun _ w3 h => WPutA v b hc39 n19 w M1 w3 h)) (Rg.ac (nx (fun _ => .bool true) (fun _ w => B.eql_errno (a := nE v b) (c := 0) (b := true) (decide_eq_true hE) w)) Rg.an))))))))))))) ?_
        intro ν w3 hI
        replace hI : WrS w w3 M1 n19 (nX X c v b) (nC c v b) := hI
        clear ν
        simp only [Rg.putL, Act.put, List.setIfInBounds_toArray, List.set_cons_succ, List.set_cons_zero]
        have hX := HW.out.1
        obtain ⟨m, rfl, hm1, hm2, hm3⟩ := okB_yes hok
        have e1 : nX X c v ((m : Nat) : Int) = X + v * 2 ^ c := by unfold nX; rw [if_pos hok]
        have e2 : nC c v ((m : Nat) : Int) = c + m := by unfold nC; rw [if_pos hok, hm1]
        rw [e1, e2] at hI
        obtain ⟨L, hG, hback⟩ := mg_gr HM.out hI
        have HB := hide hback
        have hlow := hI.low
        clear hI HW hback e1 e2
        go_upto_region 10 with (fail)
        refine wp_region_list (WL.out ?_)
        refine g_val (.slice S1 n1 cc) ?_
        refine g_val (.slice (some a) n c0) ?_
        refine g_val (Nv .i64 k) ?_
        refine g_val (.pointer (some ad)) ?_ (had.out ▸ b_ix (n := n) (c := c0) (k := k) (s := 3) (show k < n by omega) Try.underlying23 sz_call w3)
        refine g_lr (ad := ad) (#[.int .u64 ((v : Nat) : Int), .int .i64 ((m : Nat) : Int), .bool p9]) (fun j x hx => ?_) Try.underlying37 (by kernel_rfl) ?_
        · match j, hx with
          | 0, hx => rw [← Option.some.inj hx, ← hv _ hlow]; simp [Addr.add]
          | 1, hx => rw [← Option.some.inj hx]; exact hb _ hlow
          | 2, hx => rw [← Option.some.inj hx]; exact hp _ hlow
          | j + 3, hx => cases hx
        refine g_ap1 (.slice S1 n1 cc) el_c (#[.int .u64 ((v : Nat) : Int), .int .i64 ((m : Nat) : Int), .bool p9]) hG (g := cf (ex V1 n1 v) (fun j => ((ex b1 n1 m j : Nat) : Int)) (ex P1 n1 p9)) rfl (by omega) (fun i _ => cf_one _ _ _ i) (fun i hi => cf_ex hi) (fun i hi => cf_new hi) (by kernel_rfl) (fun q r dd w2 hO => ?_)
        refine g_val (.slice (some ⟨q, 0, none⟩) (n1 + 1) (n1 + 1 + dd)) ?_
        refine g_nil ?_
        simp only [Act.put, List.setIfInBounds_toArray, List.set_cons_succ, List.set_cons_zero]
        have HI := hide (HB.out _ _ hO)
        clear hO hG HB
        go_upto_region 8 with (fail)
        refine wp_region_list (WL.out ?_)
        refine g_val (Nv .i64 k) ?_
        refine g_val (Nv .i64 (k + 1)) ?_ (B.add_int (a := k) (c := 1) (d := k + 1) rfl (by omega) w2)
        refine g_val (Nv .i64 (k + 1)) ?_
        refine g_nil ?_
        simp only [Act.put, List.setIfInBounds_toArray, List.set_cons_succ, List.set_cons_zero]
        go_wp2_with (fail)
        go_roundw
        case rel => exact ⟨k + 1, _, _, n1 + 1, n1 + 1 + dd, some ⟨q, 0, none⟩, _, ex V1 n1 v, ex b1 n1 m, ex o1 (n1 + 1) (c + m), ex P1 n1 p9, by omega, by omega, rfl, rfl, by omega, by omega, HGo.out.snoc hX hm3 hm2, (fun j hj => by unfold ex; split; exact hvl; exact HV.out j (by omega)), .inr ⟨q, dd, rfl, rfl, rfl⟩, HI.out⟩
        case measure => show 100 - ((k + 1 : Nat) : Int).toNat < 100 - ((k : Nat) : Int).toNat; omega
      · have hE : nE v b = 1 := by unfold nE; rw [if_neg hok]
        go_upto_region 9 with (fail)
        refine Rg.pd [11] (fun _ => [(30, D n19), (31, .slice (some a) n c0), (32, Nv .i64 k), (33, .pointer (some ad)), (34, .pointer (some ad)), (35, Nv .u64 v), (36, .slice (some a) n c0), (37, Nv .i64 k), (38, .pointer (some ad)), (39, .pointer (some (ad.add 1))), (40, .int .i64 b), (41, Nv .i64 (nE v b)), (42, .bool false)]) (PI [fun wz => WrS w wz M1 n19 X c, fun wz => WrS w wz M1 n19 (nX X c v b) (nC c v b)]) (fun _ => 0) (HW.out.drew) (Rg.ac nv (Rg.ac nv (Rg.ac nv (Rg.ac (nx (fun _ => .pointer (some ad)) (fun _ w => had.out ▸ b_ix (n := n) (c := c0) (k := k) (s := 3) (show k < n by omega) Try.underlying23 sz_call w)) (Rg.ac nv (Rg.ac (kca (Nv .u64 v) (fun s _ w2 h => match s, h with | 0, h => WrS.low h | 1, h => WrS.low h | _ + 2, h => h.elim) (hv) B.agg_u64) (Rg.ac nv (Rg.ac nv (Rg.ac (nx (fun _ => .pointer (some ad)) (fun _ w => had.out ▸ b_ix (n := n) (c := c0) (k := k) (s := 3) (show k < n by omega) Try.underlying23 sz_call w)) (Rg.ac nv (Rg.ac (kca (.int .i64 b) (fun s _ w2 h => match s, h with | 0, h => WrS.low h | 1, h => WrS.low h | _ + 2, h => h.elim) (hb) B.agg_int) (Rg.ac (kc 0 10 (fun _ => #[D n19, Nv .u64 v, .int .i64 b]) (fun _ => Nv .i64 (nE v b)) (fun _ w3 h => WPutA v b hc39 n19 w M1 w3 h)) (Rg.ac (nx (fun _ => .bool false) (fun _ w => B.eql_errno (a := nE v b) (c := 0) (b := false) (decide_eq_false (by rw [hE]; decide)) w)) Rg.an))))))))))))) ?_
        intro ν w3 hI
        replace hI : WrS w w3 M1 n19 (nX X c v b) (nC c v b) := hI
        clear ν
        simp only [Rg.putL, Act.put, List.setIfInBounds_toArray, List.set_cons_succ, List.set_cons_zero]
        have e1 : nX X c v b = X := by unfold nX; rw [if_neg hok]
        have e2 : nC c v b = c := by unfold nC; rw [if_neg hok]
        rw [e1, e2] at hI
        have HI := hide hI
        clear hI HW e1 e2
        go_upto_region 8 with (fail)
        refine wp_region_list (WL.out ?_)
        refine g_val (Nv .i64 k) ?_
        refine g_val (Nv .i64 (k + 1)) ?_ (B.add_int (a := k) (c := 1) (d := k + 1) rfl (by omega) w3)
        refine g_val (Nv .i64 (k + 1)) ?_
        refine g_nil ?_
        simp only [Act.put, List.setIfInBounds_toArray, List.set_cons_succ, List.set_cons_zero]
        go_wp2_with (fail)
        go_roundw
        case rel => exact ⟨k + 1, X, c, n1, cc, S1, M1, V1, b1, o1, P1, by omega, by omega, rfl, rfl, by omega, by omega, HGo.out, HV.out, HM.out, HI.out⟩
        case measure => show 100 - ((k + 1 : Nat) : Int).toNat < 100 - ((k : Nat) : Int).toNat; omega
    · have hc40 : c < 2 ^ 39 := by omega
      go_upto_region 7 with (fail)
      refine reg_ways (fun x : Value × Value × Value × Value => Fr [.slice S n c0, U, .bool false, .bool true, D n19, .slice S1 n1 cc, Nv .i64 k, U, U, U, U, U, U, U, U, .bool true, .bool true, .bool false, A (wc none (fun _ => 0) 0), D n19, Nv .i64 k, .slice S n c0, Nv .i64 n, x.1, x.2.1, x.2.2.1, x.2.2.2, .bool false, u28, u29, u30, u31, u32, u33, u34, u35, u36, u37, u38, u39, u40, u41, u42, u43, u44, u45, u46, u47, u48, u49, U, U, U, U, U, U, U, U, U, U, U, U, U, U, U, U, U, U, U, U, U, U, U, U, U, U, U, U, U, U, U, U, U, U, U, U, U, U, U, U, U, U, U, U, U, U, U, U, U, U, U, U, U, U, U, U, U, U, U, U, U, U, U, U, U]) ?_ ?_
      · intro H
        by_cases hn9 : k < n
        · refine wp_region_list (WL.out ?_)
          refine g_val (Nv .i64 k) ?_
          refine g_val (.slice S n c0) ?_
          refine g_val (Nv .i64 n) ?_
          refine g_val (.bool true) ?_ (B.lss_int (a := k) (c := n) (b := true) (decide_eq_true hn9) wr)
          refine g_val (.bool true) ?_
          refine g_val (Nv .i64 k) ?_
          refine g_val (.bool false) ?_ (B.lss_int (a := k) (c := 100) (b := false) (decide_eq_false (by omega)) wr)
          refine g_val (.bool false) ?_
          refine g_nil ?_
          simp only [Act.put, List.setIfInBounds_toArray, List.set_cons_succ, List.set_cons_zero]
          exact H (.bool true, .bool true, Nv .i64 k, .bool false)
        · refine wp_region_list (WL.out ?_)
          refine g_val (Nv .i64 k) ?_
          refine g_val (.slice S n c0) ?_
          refine g_val (Nv .i64 n) ?_
          refine g_val (.bool false) ?_ (B.lss_int (a := k) (c := n) (b := false) (decide_eq_false hn9) wr)
          refine g_val (.bool false) ?_
          refine g_skip ?_
          refine g_skip ?_
          refine g_val (.bool false) ?_
          refine g_nil ?_
          simp only [Act.put, List.setIfInBounds_toArray, List.set_cons_succ, List.set_cons_zero]
          exact H (.bool false, .bool false, U, U)
      rintro ⟨x23, x24, x25, x26⟩
      dsimp only
      have hXt : X < 2 ^ c := HW.out.1
      obtain ⟨m, hm⟩ : ∃ m, m = (c + 7) / 8 := ⟨_, rfl⟩
      have hm40 : m ≤ 2 ^ 40 := by omega
      have Hm := hide hm
      clear hm hs hz hkn
      go_upto_region 11 with (fail)
      refine wp_region_list (WL.out ?_)
      refine g_val (D n19) ?_
      refine g_ret 12 #[D n19] (Nv .i64 c) (WCount n19 w M1 wr HW.out) ?_
      intro w3 hbb
      refine g_val (Nv .i64 c) ?_
      refine g_nil ?_
      simp only [Act.put, List.setIfInBounds_toArray, List.set_cons_succ, List.set_cons_zero]
      replace HW := hide (HW.out.call hbb)
      clear hbb
      go_upto_region 12 with (fail)
      refine wp_region_list (WL.out ?_)
      refine g_val (D n19) ?_
      refine g_any 13 #[D n19] (WBytes (n := m) Hm.out (by omega) n19 w M1 w3 HW.out) ?_
      rintro _ w4 ⟨q, rfl, hW⟩
      refine g_val (.slice (some ⟨q, 0, none⟩) m m) ?_
      refine g_nil ?_
      simp only [Act.put, List.setIfInBounds_toArray, List.set_cons_succ, List.set_cons_zero]
      clear HW
      have HW := hide hW
      clear hW
      go_upto_region 13 with (fail)
      refine wp_region_list (WL.out ?_)
      refine g_val (.slice (some ⟨q, 0, none⟩) m m) ?_
      refine g_val (Nv .i64 m) ?_
      refine g_val (Nv .i64 c) ?_
      refine g_val (Nv .i64 (c + 7)) ?_ (B.add_int (a := c) (c := 7) (d := c + 7) rfl (by omega) w4)
      refine g_val (Nv .i64 m) ?_ (B.quo_int (a := c + 7) (c := 8) (d := m) Hm.out.symm (by omega) (by omega) w4)
      refine g_val (.bool false) ?_ (B.neq_int (a := m) (c := m) (b := false) (decide_eq_false (fun h => h rfl)) w4)
      refine g_nil ?_
      simp only [Act.put, List.setIfInBounds_toArray, List.set_cons_succ, List.set_cons_zero]
      have hRq : Rc w4 (some ⟨q, 0, none⟩) m (by8 (byt X)) := rc_row (HW.out.own.blk (q, vals .u8 m (byt X), 5) (List.mem_append_right _ List.mem_cons_self)) fun i hi => by rw [Nat.zero_add]; exact vals_get _ _ _ _ hi
      go_upto_region 15 with (fail)
      refine wp_region_list (WL.out ?_)
      refine g_val (.slice (some ⟨q, 0, none⟩) m m) ?_
      refine g_any 15 #[.slice (some ⟨q, 0, none⟩) m m] (New_p (f := byt X) (c := m) hm40 w4 hRq) ?_
      rintro _ w5 ⟨mr, q2, rfl, hN⟩
      refine g_val (D mr) ?_
      refine g_nil ?_
      simp only [Act.put, List.setIfInBounds_toArray, List.set_cons_succ, List.set_cons_zero]
      have hO := ((HW.out.join hN).own).perm (List.perm_append_comm)
      clear HW hRq hN
      obtain ⟨T, hT⟩ : ∃ T, T = M1 ++ [(q, vals .u8 m (byt X), 5)] := ⟨_, rfl⟩
      have hO : Own w w5 ((mr, rc q2 m 0, 56) :: (q2, vals .u8 m (byt X), 5) :: T) := hT ▸ hO
      go_upto_region 16 with (fail)
      refine wp_region_list (WL.out ?_)
      refine g_val (Nv .i64 0) ?_
      refine g_nil ?_
      simp only [Act.put, List.setIfInBounds_toArray, List.set_cons_succ, List.set_cons_zero]
      have HO := hide hO
      have HT := hide hT
      clear hO hT
      go_wp2_with (fail)
      go_loopw [10] (fun x10 wr => ∃ (i t : Nat), i ≤ n1 ∧ x10 = .int .i64 (i : Int) ∧ t = o1 i ∧ Own w wr ((mr, rc q2 m t, 56) :: (q2, vals .u8 m (byt X), 5) :: T)) (fun x10 _ => n1 - (intOf x10).toNat)
      case atStart => exact ⟨0, 0, Nat.zero_le _, rfl, HGo.out.zero.symm, HO.out⟩
      case round =>
        clear HO
        obtain ⟨i, t, hi, rfl, ht, hO⟩ := hrel
        by_cases hz : i < n1
        · obtain ⟨he1, he2, he3, he4⟩ := HGo.out.each i hz
          rcases HM.out with ⟨h0, _⟩ | ⟨g, d, rfl, hcc, hM1⟩
          · omega
          · have hmem : (g, cl (zc 3 zvC) ((n1 + d) * 3) (n1 * 3) (cf V1 (fun j => ((b1 j : Nat) : Int)) P1), 37) ∈ T := by rw [HT.out, hM1]; exact List.mem_append_left _ List.mem_cons_self
            have hB := hO.blk _ (List.mem_cons_of_mem _ (List.mem_cons_of_mem _ hmem))
            have hV : (cl (zc 3 zvC) ((n1 + d) * 3) (n1 * 3) (cf V1 (fun j => ((b1 j : Nat) : Int)) P1))[i * 3]? = some (Nv .u64 (V1 i)) := by rw [cl_at _ _ _ _ _ (by omega) (by omega), cf_0]
            have hZ : (cl (zc 3 zvC) ((n1 + d) * 3) (n1 * 3) (cf V1 (fun j => ((b1 j : Nat) : Int)) P1))[i * 3 + 1]? = some (Nv .i64 (b1 i)) := by rw [cl_at _ _ _ _ _ (by omega) (by omega), cf_1]
            obtain ⟨bi, hbi⟩ : ∃ bi, Hid (b1 i = bi) := ⟨_, hide rfl⟩
            obtain ⟨vi, hvi⟩ : ∃ vi, Hid (V1 i = vi) := ⟨_, hide rfl⟩
            rw [hbi.out] at hZ he1 he2 he3 he4
            rw [hvi.out] at hV he4
            rw [← ht] at he2 he3 he4
            go_upto_region 17 with (fail)
            refine wp_region_list (WL.out ?_)
            refine g_val (Nv .i64 i) ?_
            refine g_val (.slice (some ⟨g, 0, none⟩) n1 cc) ?_
            refine g_val (Nv .i64 n1) ?_
            refine g_val (.bool true) ?_ (B.lss_int (a := i) (c := n1) (b := true) (decide_eq_true hz) wr)
            refine g_nil ?_
            simp only [Act.put, List.setIfInBounds_toArray, List.set_cons_succ, List.set_cons_zero]
            go_upto_region 19 with (fail)
            refine wp_region_list (WL.out ?_)
            refine g_val (D mr) ?_
            refine g_val (.slice (some ⟨g, 0, none⟩) n1 cc) ?_
            refine g_val (Nv .i64 i) ?_
            refine g_val (E g (i * 3)) ?_ (b_ixg (n := n1) (c := cc) hz wr)
            refine g_val (E g (i * 3 + 1)) ?_
            refine g_la (Nv .i64 bi) ((hB.cell _).trans hZ) agg_int ?_
            refine g_chg (L' := ((mr, rc q2 m (t + bi), 56) :: (q2, vals .u8 m (byt X), 5) :: T)) 19 #[D mr, Nv .i64 bi] (.tuple #[Nv .u64 (M.tk X t bi), Nv .i64 0]) (Take_c (Y := X) (t := t) (bits := bi) hm40 he1 (by have := Hm.out; omega) mr w T wr hO) ?_
            intro w6 hO
            refine g_val (.tuple #[Nv .u64 (M.tk X t bi), Nv .i64 0]) ?_
            refine g_val (Nv .u64 (M.tk X t bi)) ?_
            refine g_val (Nv .i64 0) ?_
            refine g_val (Nv .u64 (M.tk X t bi)) ?_
            refine g_val (Nv .i64 0) ?_
            refine g_nil ?_
            simp only [Act.put, List.setIfInBounds_toArray, List.set_cons_succ, List.set_cons_zero]
            have hB := hO.blk _ (List.mem_cons_of_mem _ (List.mem_cons_of_mem _ hmem))
            go_upto_region 20 with (fail)
            refine wp_region_list (WL.out ?_)
            refine g_val (Nv .u64 (M.tk X t bi)) ?_
            refine g_val (.slice (some ⟨g, 0, none⟩) n1 cc) ?_
            refine g_val (Nv .i64 i) ?_
            refine g_val (E g (i * 3)) ?_ (b_ixg (n := n1) (c := cc) hz w6)
            refine g_val (E g (i * 3)) ?_
            refine g_la (Nv .u64 vi) ((hB.cell _).trans hV) agg_u64 ?_
            refine g_val (.bool false) ?_ (B.neq_u64 (a := M.tk X t bi) (c := vi) (b := false) (decide_eq_false (by rw [he4]; exact fun h => h rfl)) w6)
            refine g_val (.bool false) ?_
            refine g_val (Nv .i64 0) ?_
            refine g_val (.bool false) ?_ (B.neq_errno (a := 0) (c := 0) (b := false) (rfl) w6)
            refine g_val (.bool false) ?_
            refine g_nil ?_
            simp only [Act.put, List.setIfInBounds_toArray, List.set_cons_succ, List.set_cons_zero]
            go_upto_region 18 with (fail)
            refine wp_region_list (WL.out ?_)
            refine g_val (Nv .i64 i) ?_
            refine g_val (Nv .i64 (i + 1)) ?_ (B.add_int (a := i) (c := 1) (d := i + 1) rfl (by omega) w6)
            refine g_val (Nv .i64 (i + 1)) ?_
            refine g_nil ?_
            simp only [Act.put, List.setIfInBounds_toArray, List.set_cons_succ, List.set_cons_zero]
            have HO := hide hO
            clear hO hB
            go_wp2_with (fail)
            go_roundw
            case rel => exact ⟨i + 1, t + bi, hz, rfl, he2.symm, HO.out⟩
            case measure => show n1 - ((i + 1 : Nat) : Int).toNat < n1 - ((i : Nat) : Int).toNat; omega
        · obtain rfl : i = n1 := by omega
          obtain rfl : t = c := by rw [ht, HGo.out.last]
          go_upto_region 17 with (fail)
          refine wp_region_list (WL.out ?_)
          refine g_val (Nv .i64 i) ?_
          refine g_val (.slice S1 i cc) ?_
          refine g_val (Nv .i64 i) ?_
          refine g_val (.bool false) ?_ (B.lss_int (a := i) (c := i) (b := false) (decide_eq_false hz) wr)
          refine g_nil ?_
          simp only [Act.put, List.setIfInBounds_toArray, List.set_cons_succ, List.set_cons_zero]
          obtain ⟨r, hr⟩ : ∃ r, r = 8 * m - t := ⟨_, rfl⟩
          have hr8 : r < 8 ∧ t + r = 8 * m := by have := Hm.out; omega
          have Hwh : Hid (true = decide (M.tk X t r = 0)) := hide (decide_eq_true (M.tk_hi r hXt (Nat.le_refl _))).symm
          have hB := hO.row 0 rfl
          go_upto_region 22 with (fail)
          refine wp_region_list (WL.out ?_)
          refine g_val (D mr) ?_
          refine g_call hO 19 #[D mr, Nv .i64 32] (.tuple #[Nv .u64 0, Nv .i64 120]) (Take_more (q := q2) (n := m) (t := t) (b := 32) (by decide) (by omega) hm40 (by omega) mr wr hB) ?_
          intro w6 hb91 hO
          refine g_val (.tuple #[Nv .u64 0, Nv .i64 120]) ?_
          refine g_val (Nv .u64 0) ?_
          refine g_val (Nv .i64 120) ?_
          refine g_val (Nv .u64 0) ?_
          refine g_val (Nv .i64 120) ?_
          refine g_nil ?_
          simp only [Act.put, List.setIfInBounds_toArray, List.set_cons_succ, List.set_cons_zero]
          have hB := hO.row 0 rfl
          go_upto_region 23 with (fail)
          refine wp_region_list (WL.out ?_)
          refine g_val (D mr) ?_
          refine g_call hO 21 #[D mr] (Nv .i64 (8 * m - t)) (Left_c (q := q2) (n := m) (t := t) hm40 (by omega) mr w6 hB) ?_
          intro w7 hb95 hO
          refine g_val (.slice (some ⟨q, 0, none⟩) m m) ?_
          refine g_val (Nv .i64 m) ?_
          refine g_val (Nv .i64 (8 * m)) ?_ (B.mul_int (a := 8) (c := m) (d := 8 * m) rfl (by omega) w7)
          refine g_val (Nv .i64 t) ?_
          refine g_val (Nv .i64 (8 * m - t)) ?_ (B.sub_int (a := 8 * m) (c := t) (d := 8 * m - t) (by omega) (by omega) w7)
          refine g_val (.bool true) ?_ (B.eql_int (a := 8 * m - t) (c := 8 * m - t) (b := true) (decide_eq_true rfl) w7)
          refine g_val (.bool true) ?_
          refine g_val (Nv .i64 120) ?_
          refine g_val (.bool true) ?_ (B.eql_errno (a := 120) (c := 120) (b := true) (rfl) w7)
          refine g_val (.bool true) ?_
          refine g_val (.bool true) ?_
          refine g_val (D mr) ?_
          refine g_chg (L' := ((mr, rc q2 m (t + r), 56) :: (q2, vals .u8 m (byt X), 5) :: T)) 17 #[D mr] (.bool true) (Whole_c (Y := X) (t := t) (r := r) (b := true) hm40 (by omega) (by omega) Hwh.out mr w T w7 hO) ?_
          intro w8 hO
          refine g_val (.bool true) ?_
          refine g_val (.bool true) ?_
          refine g_val (D mr) ?_
          refine g_call hO 21 #[D mr] (Nv .i64 (8 * m - (t + r))) (Left_c (q := q2) (n := m) (t := t + r) hm40 (by omega) mr w8 (hO.row 0 rfl)) ?_
          intro w9 hb112 hO
          refine g_val (.bool true) ?_ (B.eql_int (a := 8 * m - (t + r)) (c := 0) (b := true) (decide_eq_true (by omega)) w9)
          refine g_val (.bool true) ?_
          refine g_val (.bool true) ?_
          refine g_nil ?_
          simp only [Act.put, List.setIfInBounds_toArray, List.set_cons_succ, List.set_cons_zero]
          have HF := hide hO.low
          clear hO hB
          go_wp2_with (fail)
          go_ret
          exact ⟨rfl, HF.out⟩
end W
end Go.Proofs.Ytacopggeidbnbaa

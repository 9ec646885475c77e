/- The Writer as a state of the world; awake. No conditions but those that each names. -/
import Derived.Test.YtacopggeidbnbaaCc
import Derived.Test.YtacopggeidbnbaaCf
namespace Go.Proofs.Ytacopggeidbnbaa
set_option maxRecDepth 100000
open Go.RowKit Rg B


namespace B
section
variable {o : Oper} {a : Act} {w : World} {Q : Exit → Act → World → Prop} {ops : Array Oper} {rest : List Oper}
/-- A call that changes nothing. -/
theorem g_ret (f : FuncId) (args : Array Value) (v : Value) (hc : Ret f args w v) (h : ∀ w', Below w.heap.size w w' → WL ops Q rest (a.put o.dst v) w') (hrun : (execOp a.eval o).run Try.prog w = .ok (.enter f args) w := by kernel_rfl) (hg : Region.wanted o (yielded ops a.tmps) = true := by kernel_rfl) : WL ops Q (o :: rest) a w :=
  g_any (P := fun v' w' => v' = v ∧ Below w.heap.size w w') f args (Calls.mono hc fun _ _ hh => ⟨_, hh.1, rfl, hh.2⟩) (fun _ w' hP => by obtain ⟨rfl, hb⟩ := hP; exact h w' hb) hrun hg
end
end B
open W R
namespace W
/-- A Writer to which the c bits of X were put, and other rows M. -/
def WrS (u w : World) (M' : List Row) (N X c : Nat) : Prop := X < 2 ^ c ∧ ∃ p C, Own u w ((N, wc p (op X c) c, 28) :: (C ++ M')) ∧ Chn C X (c / 2048) p
theorem WrS.new {u w : World} {M' : List Row} {N : Nat} (h : Own u w ((N, wc none (fun _ => 0) 0, 28) :: M')) : WrS u w M' N 0 0 :=
  ⟨by decide, none, [], by
    have e : wc none (op 0 0) 0 = wc none (fun _ => 0) 0 := wc_congr fun k _ => M.byt_hi (c := 0) (by decide) (Nat.zero_le _)
    rw [e]; exact h, rfl⟩
theorem WrS.call {u w w' : World} {M' : List Row} {N X c : Nat} (h : WrS u w M' N X c) (hb : Below w.heap.size w w') : WrS u w' M' N X c := by
  obtain ⟨hX, p, C, hO, hC⟩ := h
  exact ⟨hX, p, C, hO.call hb, hC⟩
theorem WrS.low {u w : World} {M' : List Row} {N X c : Nat} (h : WrS u w M' N X c) : Below u.heap.size u w := by
  obtain ⟨hX, p, C, hO, hC⟩ := h
  exact hO.low
theorem WrS.blk {u w : World} {M' : List Row} {N X c : Nat} (h : WrS u w M' N X c) : ∃ p, Blk w N (wc p (op X c) c) 28 ∧ ChB w X (c / 2048) p := by
  obtain ⟨hX, p, C, hO, hC⟩ := h
  exact ⟨p, hO.row 0 rfl, hC.blk fun r hr => hO.blk r (List.mem_cons_of_mem _ (List.mem_append_left _ hr))⟩
theorem WrS.row {u w : World} {M' : List Row} {N X c : Nat} (h : WrS u w M' N X c) (j : Nat) {b : Nat} {d : Array Value} {t : TypeId} (hj : M'[j]? = some (b, d, t)) : Blk w b d t := by
  obtain ⟨hX, p, C, hO, hC⟩ := h
  exact hO.blk (b, d, t) (List.mem_cons_of_mem _ (List.mem_append_right _ (List.mem_of_getElem? hj)))
/-- Rows that a call has laid. -/
theorem WrS.join {u w w' : World} {M' L : List Row} {N X c : Nat} (h : WrS u w M' N X c) (h' : Own w w' L) : WrS u w' (M' ++ L) N X c := by
  obtain ⟨hX, p, C, hO, hC⟩ := h
  refine ⟨hX, p, C, ?_, hC⟩
  have := own_join hO h'
  rwa [List.cons_append, List.append_assoc] at this
/-- The other rows, ahead. -/
theorem WrS.open {u w : World} {M' : List Row} {N X c : Nat} (h : WrS u w M' N X c) : ∃ T, Own u w (M' ++ T) ∧ ∀ w' L, Own u w' (L ++ T) → WrS u w' L N X c := by
  obtain ⟨hX, p, C, hO, hC⟩ := h
  have hp : ∀ L : List Row, ((N, wc p (op X c) c, 28) :: (C ++ L)).Perm (L ++ ((N, wc p (op X c) c, 28) :: C)) := fun L => (List.perm_append_comm (l₁ := (N, wc p (op X c) c, 28) :: C) (l₂ := L))
  exact ⟨(N, wc p (op X c) c, 28) :: C, hO.perm (hp M'), fun w' L h => ⟨hX, p, C, h.perm (hp L).symm, hC⟩⟩
theorem WPut {X v c bits X' c' : Nat} (hv : v < 2 ^ bits) (hb : bits ≤ 32) (hc : c < 2 ^ 39) (hX' : X + v * 2 ^ c = X') (hc' : c + bits = c') (N : Nat) (u : World) (M' : List Row) (w : World) (h : WrS u w M' N X c) :
    RetP 10 #[D N, Nv .u64 v, Nv .i64 bits] w fun x w' => x = Nv .i64 0 ∧ WrS u w' M' N X' c' := by
  obtain ⟨hX, p, C, hO, hC⟩ := h
  subst hX' hc'
  refine (Put_c hX hv hb hc N u _ w hO).mono fun e w' hh => ?_
  obtain ⟨he, p', C', hO', hC'⟩ := hh
  exact ⟨_, he, rfl, M.put_lt hX hv, p', C' ++ C, by rw [List.append_assoc]; exact hO', hC' C hC⟩
theorem WBytes {X c n : Nat} (hn : n = (c + 7) / 8) (hc : c < 2 ^ 40) (N : Nat) (u : World) (M' : List Row) (w : World) (h : WrS u w M' N X c) :
    RetP 13 #[D N] w fun x w' => ∃ q, x = .slice (some ⟨q, 0, none⟩) n n ∧ WrS u w' (M' ++ [(q, vals .u8 n (byt X), 5)]) N X c := by
  obtain ⟨p, hB, hC⟩ := h.blk
  refine (Bytes_c hn hc N w hB hC).mono fun e w' hh => ?_
  obtain ⟨q, he, hO⟩ := hh
  exact ⟨_, he, q, rfl, h.join hO⟩
theorem WCount {X c : Nat} (N : Nat) (u : World) (M' : List Row) (w : World) (h : WrS u w M' N X c) : Ret 12 #[D N] w (Nv .i64 c) := by
  obtain ⟨p, hB, _⟩ := h.blk
  exact Count_c N w hB
theorem New_p {S : Option Addr} {n c : Nat} {f : Nat → Nat} (hn : n ≤ 2 ^ 40) (w : World) (hA : Rc w S n (by8 f)) : RetP 15 #[.slice S n c] w fun x w' => ∃ N q, x = D N ∧ Own w w' [(N, rc q n 0, 56), (q, vals .u8 n f, 5)] := by
  refine (New_c hn w hA).mono fun e w' hh => ?_
  obtain ⟨N, q, he, hO⟩ := hh
  exact ⟨_, he, N, q, rfl, hO⟩
set_option maxHeartbeats 4000000 in
theorem awake_c (w : World) : Ret 9 #[] w (.bool true) := by
  go_enter Try.func9, Try.ntmps9
  have hO := Own.start w
  go_upto_region 0 with (fail)
  refine wp_region_list (WL.out ?_)
  refine g_val (.bool false) ?_
  refine g_nil ?_
  simp only [Act.put, List.setIfInBounds_toArray, List.set_cons_zero]
  go_upto_region 1 with (fail)
  refine wp_region_list (WL.out ?_)
  refine g_val (A (wc none (fun _ => 0) 0)) ?_ (run_bd 28 _ rfl [] (by kernel_rfl) _ wc_zero w)
  refine g_new hO D (wc none (fun _ => 0) 0) 28 (wc_fit _ _ _) (run_box 28 _ rfl _ (by kernel_rfl) w) ?_
  intro n14 w1 _ hO
  replace hO : Own w w1 [(n14, wc none (fun _ => 0) 0, 28)] := hO
  refine g_val (D n14) ?_
  refine g_nil ?_
  simp only [Act.put, List.setIfInBounds_toArray, List.set_cons_succ, List.set_cons_zero]
  have hW := WrS.new (M' := []) hO
  clear hO
  go_upto_region 2 with (fail)
  refine wp_region_list (WL.out ?_)
  refine g_val (D n14) ?_
  refine g_any 10 #[D n14, Nv .u64 5, Nv .i64 3] (WPut (X' := 5) (c' := 3) (by decide) (by decide) (by decide) (by decide) (by decide) n14 w [] w1 hW) ?_
  rintro _ w2 ⟨rfl, hW2⟩
  refine g_val (Nv .i64 0) ?_
  refine g_nil ?_
  simp only [Act.put, List.setIfInBounds_toArray, List.set_cons_succ, List.set_cons_zero]
  replace hW := hW2
  go_upto_region 3 with (fail)
  refine wp_region_list (WL.out ?_)
  refine g_val (D n14) ?_
  refine g_any 10 #[D n14, Nv .u64 1, Nv .i64 1] (WPut (X' := 13) (c' := 4) (by decide) (by decide) (by decide) (by decide) (by decide) n14 w [] w2 hW) ?_
  rintro _ w3 ⟨rfl, hW3⟩
  refine g_val (Nv .i64 0) ?_
  refine g_nil ?_
  simp only [Act.put, List.setIfInBounds_toArray, List.set_cons_succ, List.set_cons_zero]
  replace hW := hW3
  go_upto_region 4 with (fail)
  refine wp_region_list (WL.out ?_)
  refine g_val (D n14) ?_
  refine g_any 10 #[D n14, Nv .u64 3, Nv .i64 6] (WPut (X' := 61) (c' := 10) (by decide) (by decide) (by decide) (by decide) (by decide) n14 w [] w3 hW) ?_
  rintro _ w4 ⟨rfl, hW4⟩
  refine g_val (Nv .i64 0) ?_
  refine g_nil ?_
  simp only [Act.put, List.setIfInBounds_toArray, List.set_cons_succ, List.set_cons_zero]
  replace hW := hW4
  go_upto_region 5 with (fail)
  refine wp_region_list (WL.out ?_)
  refine g_val (D n14) ?_
  refine g_ret 10 #[D n14, Nv .u64 4, .int .i64 2] (Nv .i64 1) (Put_bad (v := 4) (b := 2) (.inr (.inr ⟨2, rfl, by decide, by decide⟩)) n14 w4) ?_
  intro w5 hbb
  refine g_val (Nv .i64 1) ?_
  refine g_nil ?_
  simp only [Act.put, List.setIfInBounds_toArray, List.set_cons_succ, List.set_cons_zero]
  replace hW := hW.call hbb
  clear hbb
  go_upto_region 6 with (fail)
  refine wp_region_list (WL.out ?_)
  refine g_val (D n14) ?_
  refine g_any 13 #[D n14] (WBytes (n := 2) (by decide) (by decide) n14 w [] w5 hW) ?_
  rintro _ w6 ⟨q, rfl, hW6⟩
  refine g_val (.slice (some ⟨q, 0, none⟩) 2 2) ?_
  refine g_nil ?_
  simp only [Act.put, List.setIfInBounds_toArray, List.set_cons_succ, List.set_cons_zero]
  replace hW := hW6
  have hR : Rc w6 (some ⟨q, 0, none⟩) 2 (by8 (byt 61)) := rc_row (hW.row 0 rfl) fun i hi => by rw [Nat.zero_add]; exact vals_get _ _ _ _ hi
  go_upto_region 7 with (fail)
  refine wp_region_list (WL.out ?_)
  refine g_val (.slice (some ⟨q, 0, none⟩) 2 2) ?_
  refine g_any 15 #[.slice (some ⟨q, 0, none⟩) 2 2] (New_p (c := 2) (by decide) w6 hR) ?_
  rintro _ w7 ⟨m, q2, rfl, hN⟩
  refine g_val (D m) ?_
  refine g_nil ?_
  simp only [Act.put, List.setIfInBounds_toArray, List.set_cons_succ, List.set_cons_zero]
  replace hW := hW.join hN
  clear hW6 hN hR
  obtain ⟨_, p, C, hO, _⟩ := hW
  replace hO : Own w w7 ((m, rc q2 2 0, 56) :: (q2, vals .u8 2 (byt 61), 5) :: (q, vals .u8 2 (byt 61), 5) :: (n14, wc p (op 61 10) 10, 28) :: C) := hO.perm (by
    refine (List.Perm.cons _ (List.perm_append_comm (l₁ := C))).trans ?_
    refine (List.perm_middle (l₁ := [(n14, wc p (op 61 10) 10, 28), (q, vals .u8 2 (byt 61), 5)]) (a := (m, rc q2 2 0, 56)) (l₂ := (q2, vals .u8 2 (byt 61), 5) :: C)).trans (List.Perm.cons _ ?_)
    refine (List.perm_middle (l₁ := [(n14, wc p (op 61 10) 10, 28), (q, vals .u8 2 (byt 61), 5)]) (a := (q2, vals .u8 2 (byt 61), 5)) (l₂ := C)).trans (List.Perm.cons _ ?_)
    exact List.Perm.swap _ _ _)
  go_upto_region 8 with (fail)
  refine wp_region_list (WL.out ?_)
  refine g_val (D m) ?_
  refine g_chg (L' := ((m, rc q2 2 3, 56) :: (q2, vals .u8 2 (byt 61), 5) :: (q, vals .u8 2 (byt 61), 5) :: (n14, wc p (op 61 10) 10, 28) :: C)) 19 #[D m, Nv .i64 3] (.tuple #[Nv .u64 5, Nv .i64 0]) (Take_c (Y := 61) (t := 0) (bits := 3) (by decide) (by decide) (by decide) m w ((q, vals .u8 2 (byt 61), 5) :: (n14, wc p (op 61 10) 10, 28) :: C) w7 hO) ?_
  intro w8 hO
  refine g_val (.tuple #[Nv .u64 5, Nv .i64 0]) ?_
  refine g_val (Nv .u64 5) ?_
  refine g_val (Nv .i64 0) ?_
  refine g_val (Nv .u64 5) ?_
  refine g_val (Nv .i64 0) ?_
  refine g_nil ?_
  simp only [Act.put, List.setIfInBounds_toArray, List.set_cons_succ, List.set_cons_zero]
  go_upto_region 9 with (fail)
  refine wp_region_list (WL.out ?_)
  refine g_val (D m) ?_
  refine g_chg (L' := ((m, rc q2 2 4, 56) :: (q2, vals .u8 2 (byt 61), 5) :: (q, vals .u8 2 (byt 61), 5) :: (n14, wc p (op 61 10) 10, 28) :: C)) 19 #[D m, Nv .i64 1] (.tuple #[Nv .u64 1, Nv .i64 0]) (Take_c (Y := 61) (t := 3) (bits := 1) (by decide) (by decide) (by decide) m w ((q, vals .u8 2 (byt 61), 5) :: (n14, wc p (op 61 10) 10, 28) :: C) w8 hO) ?_
  intro w9 hO
  refine g_val (.tuple #[Nv .u64 1, Nv .i64 0]) ?_
  refine g_val (Nv .u64 1) ?_
  refine g_val (Nv .i64 0) ?_
  refine g_val (Nv .u64 1) ?_
  refine g_val (Nv .i64 0) ?_
  refine g_nil ?_
  simp only [Act.put, List.setIfInBounds_toArray, List.set_cons_succ, List.set_cons_zero]
  go_upto_region 10 with (fail)
  refine wp_region_list (WL.out ?_)
  refine g_val (D m) ?_
  refine g_chg (L' := ((m, rc q2 2 8, 56) :: (q2, vals .u8 2 (byt 61), 5) :: (q, vals .u8 2 (byt 61), 5) :: (n14, wc p (op 61 10) 10, 28) :: C)) 17 #[D m] (.bool false) (Whole_c (Y := 61) (t := 4) (r := 4) (b := false) (by decide) (by decide) (by decide) (by decide) m w ((q, vals .u8 2 (byt 61), 5) :: (n14, wc p (op 61 10) 10, 28) :: C) w9 hO) ?_
  intro w10 hO
  refine g_val (.bool false) ?_
  refine g_nil ?_
  simp only [Act.put, List.setIfInBounds_toArray, List.set_cons_succ, List.set_cons_zero]
  go_upto_region 11 with (fail)
  refine wp_region_list (WL.out ?_)
  refine g_val (.slice (some ⟨q, 0, none⟩) 2 2) ?_
  refine g_val (Nv .i64 2) ?_
  refine g_val (.bool false) ?_ (B.neq_int (a := 2) (c := 2) (b := false) (rfl) w10)
  refine g_nil ?_
  simp only [Act.put, List.setIfInBounds_toArray, List.set_cons_succ, List.set_cons_zero]
  have hB := hO.row 3 rfl
  have hD := hO.row 0 rfl
  go_upto_region 13 with (fail)
  refine wp_region_list (WL.out ?_)
  refine g_val (Nv .i64 0) ?_
  refine g_val (.bool true) ?_ (B.eql_errno (a := 0) (c := 0) (b := true) (rfl) w10)
  refine g_val (.bool true) ?_
  refine g_val (Nv .i64 0) ?_
  refine g_val (.bool true) ?_ (B.eql_errno (a := 0) (c := 0) (b := true) (rfl) w10)
  refine g_val (.bool true) ?_
  refine g_val (.bool true) ?_
  refine g_val (Nv .i64 0) ?_
  refine g_val (.bool true) ?_ (B.eql_errno (a := 0) (c := 0) (b := true) (rfl) w10)
  refine g_val (.bool true) ?_
  refine g_val (.bool true) ?_
  refine g_val (Nv .i64 1) ?_
  refine g_val (.bool true) ?_ (B.eql_errno (a := 1) (c := 1) (b := true) (rfl) w10)
  refine g_val (.bool true) ?_
  refine g_val (.bool true) ?_
  refine g_val (D n14) ?_
  refine g_call hO 12 #[D n14] (Nv .i64 10) (Count_c n14 w10 hB) ?_
  intro w11 hb58 hO
  refine g_val (.bool true) ?_ (B.eql_int (a := 10) (c := 10) (b := true) (rfl) w11)
  refine g_val (.bool true) ?_
  refine g_val (.bool true) ?_
  refine g_val (.slice (some ⟨q, 0, none⟩) 2 2) ?_
  refine g_val (D q) ?_
  refine g_lc hO 2 0 (Nv .u8 61) rfl (vals_get _ _ _ _ (by decide)) agg_u8 ?_
  refine g_val (.bool true) ?_ (B.eql_u8 (a := 61) (c := 61) (b := true) (rfl) w11)
  refine g_val (.bool true) ?_
  refine g_val (.bool true) ?_
  refine g_val (.slice (some ⟨q, 0, none⟩) 2 2) ?_
  refine g_val (E q 1) ?_
  refine g_lc hO 2 1 (Nv .u8 0) rfl (vals_get _ _ _ _ (by decide)) agg_u8 ?_
  refine g_val (.bool true) ?_ (B.eql_u8 (a := 0) (c := 0) (b := true) (rfl) w11)
  refine g_val (.bool true) ?_
  refine g_val (.bool true) ?_
  refine g_val (Nv .u64 5) ?_
  refine g_val (.bool true) ?_ (B.eql_u64 (a := 5) (c := 5) (b := true) (rfl) w11)
  refine g_val (.bool true) ?_
  refine g_val (.bool true) ?_
  refine g_val (Nv .i64 0) ?_
  refine g_val (.bool true) ?_ (B.eql_errno (a := 0) (c := 0) (b := true) (rfl) w11)
  refine g_val (.bool true) ?_
  refine g_val (.bool true) ?_
  refine g_val (Nv .u64 1) ?_
  refine g_val (.bool true) ?_ (B.eql_u64 (a := 1) (c := 1) (b := true) (rfl) w11)
  refine g_val (.bool true) ?_
  refine g_val (.bool true) ?_
  refine g_val (Nv .i64 0) ?_
  refine g_val (.bool true) ?_ (B.eql_errno (a := 0) (c := 0) (b := true) (rfl) w11)
  refine g_val (.bool true) ?_
  refine g_val (.bool true) ?_
  refine g_val (.bool false) ?_
  refine g_val (.bool true) ?_
  refine g_val (.bool true) ?_
  refine g_val (.bool true) ?_
  refine g_val (D m) ?_
  refine g_call hO 21 #[D m] (Nv .i64 8) (Left_c (n := 2) (t := 8) (by decide) (by decide) m w11 (hD.call (by assumption))) ?_
  intro w12 hb95 hO
  refine g_val (.bool true) ?_ (B.eql_int (a := 8) (c := 8) (b := true) (rfl) w12)
  refine g_val (.bool true) ?_
  refine g_val (.bool true) ?_
  refine g_nil ?_
  simp only [Act.put, List.setIfInBounds_toArray, List.set_cons_succ, List.set_cons_zero]
  have HF := hide hO.low
  clear hO hB hD
  go_wp2_with (fail)
  go_ret
  exact ⟨rfl, HF.out⟩
end W
end Go.Proofs.Ytacopggeidbnbaa

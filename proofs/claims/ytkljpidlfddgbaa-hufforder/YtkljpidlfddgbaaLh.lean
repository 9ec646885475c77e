/- What Lengths tells is a code's; codes of one word. No conditions but those that each names. What the lengths that Lengths tells weigh. No conditions but those that each names. The walk of HuffOrder. No conditions but what the arguments' kinds tell. -/
import Derived.Test.YtkljpidlfddgbaaSn
import Derived.Test.YtkljpidlfddgbaaSp
import Derived.Test.YtkljpidlfddgbaaRj
import Derived.Test.YtkljpidlfddgbaaRi
import Derived.Test.YtkljpidlfddgbaaTa
import Derived.Test.YtkljpidlfddgbaaRn
import Derived.Test.YtkljpidlfddgbaaRm
import Derived.Test.YtkljpidlfddgbaaRe
namespace Go.Proofs.Ytkljpidlfddgbaa
set_option maxRecDepth 100000
open Go.RowKit Rg B

section
namespace Q
open H
section
variable {cn : Nat → Nat} {n L : Nat}
abbrev zt (cn : Nat → Nat) (n L : Nat) (i : Nat) : Int := ((tl cn n L i : Nat) : Int)
theorem tl_fit (hL1 : 1 ≤ L) (hL : L ≤ 15) (hm : many cn n ≤ 2 ^ L) (i : Nat) (hi : i < n) : (tl cn n L i = 0 ↔ cn i = 0) ∧ tl cn n L i ≤ L := (tl_ok hL1 hL (by rw [rsg_len]; exact hm)).1 i hi
theorem ln_tl (hL1 : 1 ≤ L) (hL : L ≤ 15) (hm : many cn n ≤ 2 ^ L) (i : Nat) (hi : i < n) : ln (zt cn n L) i = tl cn n L i := by
  have := (tl_fit hL1 hL hm i hi).2
  unfold ln zt
  omega
theorem many_tl (hL1 : 1 ≤ L) (hL : L ≤ 15) (hm : many cn n ≤ 2 ^ L) : many (ln (zt cn n L)) n = many cn n := sg_congr fun i hi => by
  rw [ln_tl hL1 hL hm i hi]
  have := (tl_fit hL1 hL hm i hi).1
  by_cases h : cn i = 0
  · rw [if_neg (by have := this.2 h; omega), if_neg (by omega)]
  · rw [if_pos (by have : tl cn n L i ≠ 0 := fun e => h (this.1 e)
                   omega), if_pos (by omega)]
theorem room_tl (hL1 : 1 ≤ L) (hL : L ≤ 15) (hm : many cn n ≤ 2 ^ L) : room (ln (zt cn n L)) n = room (tl cn n L) n := sg_congr fun i hi => by rw [ln_tl hL1 hL hm i hi]
theorem okW_tl (hn : n ≤ 1000) (hL1 : 1 ≤ L) (hL : L ≤ 15) (hm : many cn n ≤ 2 ^ L) (h0 : many cn n ≠ 0) : okW (zt cn n L) n := by
  have h := tl_ok (c := cn) (n := n) hL1 hL (by rw [rsg_len]; exact hm)
  rw [rsg_len] at h
  refine ⟨hn, fun i hi => ?_, by rw [many_tl hL1 hL hm]; exact h0, ?_⟩
  · have := (h.1 i hi).2
    unfold zt
    omega
  · rw [many_tl hL1 hL hm, room_tl hL1 hL hm]
    by_cases h1 : many cn n = 1
    · exact .inr ⟨h1, h.2.1 h1⟩
    · exact .inl (h.2.2 (by omega)).1
end
section
variable {i n v : Nat}
theorem one_many (hi : i < n) (hv : 1 ≤ v) : many (fun j => if j = i then v else 0) n = 1 := by
  unfold many
  rw [sg_step (h := fun _ => 0) (d := 1) (i := i) hi ?_ ?_, sg_const, Nat.mul_zero]
  · intro k _ hk
    show (if 1 ≤ (if k = i then v else 0) then 1 else 0) = 0
    rw [if_neg hk]; rfl
  · show (if 1 ≤ (if i = i then v else 0) then 1 else 0) = 1
    rw [if_pos rfl, if_pos hv]
theorem one_tl (hi : i < n) (hv : 1 ≤ v) (L j : Nat) : tl (fun j => if j = i then v else 0) n L j = if j = i then 1 else 0 := by
  unfold tl
  rw [if_pos (by rw [rsg_len]; exact one_many hi hv)]
  by_cases h : j = i
  · rw [if_pos h, if_pos (rsg_in.2 ⟨by omega, by show (if j = i then v else 0) ≠ 0; rw [if_pos h]; omega⟩)]
  · have hn : ¬ j ∈ rsg (fun j => if j = i then v else 0) n := fun e => (rsg_in.1 e).2 (if_neg h)
    rw [if_neg h, if_neg hn]
variable {l : Nat → Nat}
theorem one_word (hi : i < n) (hl : l i = 1) (hr : room l n = 16384) : word l n i = 0 := by
  have := word_room (l := l) hi (by omega)
  rw [hl, hr] at this
  omega
theorem one_t0 (hi : i < n) (hl : ∀ j, j < n → l j = if j = i then 1 else 0) (hr : room l n = 16384) : tko l n (8 * 1) 254 0 15 0 = (i, 0, 1) := by
  have hli : l i = 1 := by rw [hl i hi, if_pos rfl]
  refine tko_found (by decide) (fd_some hi ?_ fun j hj => ?_)
  · unfold pW wd
    rw [if_pos (by omega), one_word hi hli hr, hli]
    decide
  · unfold pW
    rw [hl j (by omega), if_neg (by omega)]
    rfl
theorem one_t1 (hi : i < n) (hl : ∀ j, j < n → l j = if j = i then 1 else 0) (hr : room l n = 16384) : tko l n (8 * 1) 1 0 15 0 = (0, 130, 1) := by
  have hli : l i = 1 := by rw [hl i hi, if_pos rfl]
  have hf : fd (pW l n 1 (hv 1 0 1)) n = none := fd_none fun j hj => by
    unfold pW
    by_cases h : j = i
    · subst h
      have : wd l n j = 0 := by unfold wd; rw [if_pos (by omega), one_word hi hli hr]
      rw [this]
      simp [hv]
    · rw [hl j hj, if_neg h]
      rfl
  rw [tko, if_neg (by decide)]
  show (match fd (pW l n 1 (hv 1 0 1)) n with | some i => _ | none => _) = _
  rw [hf]
  show (if (0 : Nat) = 0 ∧ room l n = 16384 then _ else _) = _
  rw [if_pos ⟨rfl, hr⟩]
end
end Q
end
section
namespace B
theorem shl_iu {ρ : Operand → Value} {o : Oper} {x y : Operand} {a s d : Nat} (h : a * 2 ^ s = d) (hd : d < 9223372036854775808) (hs : s < 64) (w : World) (ho : o.op = .binOp .shl 3 x y 29 := by rfl) (hx : ρ x = Nv .i64 a := by kernel_rfl) (hy : ρ y = Nv .u64 s := by kernel_rfl) : (execOp ρ o).run Try.prog w = .ok (.value (Nv .i64 d)) w := by
  have h0 : (0 : Int) ≤ (s : Int) := by omega
  have h3 : (s : Int) < 64 := by omega
  have h4 : min s 64 = s := by omega
  have h1 : IntKind.i64.wrap ((a : Int) * 2 ^ s) = (d : Int) := by rw [show (a : Int) * 2 ^ s = ((a * 2 ^ s : Nat) : Int) by simp, h]; exact w_i64 _ hd
  clear h
  unfold execOp
  simp only [ho, hx, hy]
  go_simp
end B
namespace Q
open H
section
variable {cn : Nat → Nat} {n L : Nat}
theorem okC_tl (hL1 : 1 ≤ L) (hL : L ≤ 15) (hm : many cn n ≤ 2 ^ L) : okC cn (zt cn n L) L n := fun i hi => by
  have := tl_fit hL1 hL hm i hi
  unfold zt
  omega
theorem cst_tl : cst cn (zt cn n L) n = H.sg n fun i => cn i * tl cn n L i := sg_congr fun i _ => by
  show cn i * ((tl cn n L i : Nat) : Int).toNat = _
  rw [Int.toNat_natCast]
theorem rsg_nz : ((rsg cn n).map cn).Perm (nz cn n) := by
  rw [← pz_map]
  exact (rsg_perm cn n).map cn
theorem up_rsg : Up (fun x : Nat => x) ((rsg cn n).map cn) := by
  have h := rsg_up cn n
  unfold Up at *
  rw [List.pairwise_map]
  exact h
theorem cst_wl (hL1 : 1 ≤ L) (hL : L ≤ 15) (hm : many cn n ≤ 2 ^ L) (h2 : 2 ≤ many cn n) {s : List Nat} (hs : Up (fun x : Nat => x) s) (hp : s.Perm (nz cn n)) : cst cn (zt cn n L) n = wLeast s L := by
  have e : (rsg cn n).map cn = s := up_one up_rsg hs (rsg_nz.trans hp.symm)
  have h := ((tl_ok (c := cn) (n := n) hL1 hL (by rw [rsg_len]; exact hm)).2.2 (by rw [rsg_len]; exact h2)).2
  rw [cst_tl, h, ← e]
  unfold wLeast
  rw [List.length_map]
theorem cst_none (h0 : many cn n = 0) : cst cn (zt cn n L) n = 0 := by
  have h : ∀ i, i < n → cn i = 0 := fun i hi => by
    by_cases hc : cn i = 0
    · exact hc
    · have := rsg_in.2 ⟨hi, hc⟩
      have hl := rsg_len cn n
      rw [h0] at hl
      rw [List.length_eq_zero_iff.1 hl] at this
      cases this
  rw [cst_tl, sg_congr (h := fun _ => 0) fun i hi => by rw [h i hi, Nat.zero_mul], sg_const, Nat.mul_zero]
theorem cst_lower {z : Nat → Int} (hL1 : 1 ≤ L) (hL : L ≤ 15) (hm : many cn n ≤ 2 ^ L) (h2 : 2 ≤ many cn n) (h : okC cn z L n) (hr : room (ln z) n ≤ 2 ^ 15) : cst cn (zt cn n L) n ≤ cst cn z n := by
  rw [cst_wl hL1 hL hm h2 up_rsg rsg_nz]
  exact cost_lower hL up_rsg rsg_nz h hr
theorem CostT_c {S T : Option Addr} {c d : Nat} (hn : n ≤ 1000) (hL1 : 1 ≤ L) (hL : L ≤ 15) (hm : many cn n ≤ 2 ^ L) (hcn : ∀ i, cn i < 4294967296) (w : World) (hS : Rc w S n (H.nw cn)) (hT : Rc w T n (zi (zt cn n L))) : Ret 15 #[.slice S n c, .slice T n d, Nv .i64 L] w (.tuple #[Nv .u64 (cst cn (zt cn n L) n), .bool true]) := by
  refine (Cost_c hn hL hcn w hS hT).mono fun e w' hh => ?_
  obtain ⟨v, he, ⟨_, hv⟩ | ⟨hno, _⟩, hb⟩ := hh
  · exact ⟨hv ▸ he, hb⟩
  · exact absurd (okC_tl hL1 hL hm) hno
theorem RoomT_c {S : Option Addr} {c : Nat} {z : Nat → Int} (hz : ∀ i, i < n → 0 ≤ z i ∧ z i ≤ 15) (hn : n ≤ 2 ^ 30) (w : World) (hS : Rc w S n (zi z)) : Ret 16 #[.slice S n c] w (Nv .i64 (room (ln z) n)) :=
  Room_c (ln_le z) hn w (hS.congr fun i hi => by
    unfold zi H.ni
    rw [ln_eq (hz i hi)])
theorem many_next (k : Nat) : many cn (k + 1) = many cn k + if 1 ≤ cn k then 1 else 0 := rfl
end
end Q
end
section
namespace B
theorem b_loW {ρ : Operand → Value} {o : Oper} {x y : Operand} {S : Option Addr} {len cap c : Nat} (hc : c ≤ len) (w : World) (ho : o.op = .slice 23 x (some y) none none := by rfl) (hx : ρ x = .slice S len cap := by kernel_rfl) (hy : ρ y = Nv .i64 c := by kernel_rfl) : (execOp ρ o).run Try.prog w = .ok (.value (.slice (cutS S c cap 1) (len - c) (cap - c))) w := by
  have e : (Instr.slice 23 (.slice S len cap) (some (.int .i64 (c : Int))) none none).run Try.prog w = .ok (.slice (cutS S c cap 1) (len - c) (cap - c)) w := by
    rw [run_slice_l w 23 S len cap (by kernel_rfl) .i64 c (by omega) (by omega), show (sizeOf (Try.prog.elem 23)).run Try.prog w = .ok 1 w by rfl]
    simp [Result.andThen, sliced, cutS]
  have e' : (Instr.sliceAt 23 (.slice S len cap) (some (Nv .i64 c)) none none).run Try.prog w = .ok (.slice (cutS S c cap 1) (len - c) (cap - c)) w := by
    unfold Instr.sliceAt
    go_simp
  unfold execOp
  rw [ho]
  dsimp only [Option.map]
  rw [hx, hy, Sem.run_bind, e']
  rfl
theorem b_hiW {ρ : Operand → Value} {o : Oper} {x y : Operand} {S : Option Addr} {len cap c : Nat} (hc : c ≤ len) (hl : len ≤ cap) (w : World) (ho : o.op = .slice 23 x none (some y) none := by rfl) (hx : ρ x = .slice S len cap := by kernel_rfl) (hy : ρ y = Nv .i64 c := by kernel_rfl) : (execOp ρ o).run Try.prog w = .ok (.value (.slice S c cap)) w := by
  have e : (Instr.slice 23 (.slice S len cap) none (some (Nv .i64 c)) none).run Try.prog w = .ok (.slice S c cap) w := by
    rw [run_slice_h w 23 S len cap (by kernel_rfl) .i64 (c : Int) (by omega) (by omega), show (sizeOf (Try.prog.elem 23)).run Try.prog w = .ok 1 w by rfl]
    cases S <;> simp [Result.andThen, sliced, Addr.add]
  have e' : (Instr.sliceAt 23 (.slice S len cap) none (some (Nv .i64 c)) none).run Try.prog w = .ok (.slice S c cap) w := by
    unfold Instr.sliceAt
    go_simp
  unfold execOp
  rw [ho]
  dsimp only [Option.map]
  rw [hx, hy, Sem.run_bind, e']
  rfl
theorem el_w : El 23 24 1 (.int .u32 0) := ⟨Try.underlying23, by kernel_rfl, by kernel_rfl, rfl, by decide, rfl, by simp [Value.cells]; rfl⟩
theorem u32_nil_fit : Fit 24 #[] := ⟨(fun h => by cases h), by simp⟩
end B
namespace H
theorem rc_cutW {w : World} {S : Option Addr} {n a cap : Nat} {f : Nat → Value} (h : Rc w S n f) (hc : n ≤ cap) (ha : a ≤ n) : Rc w (cutS S a cap 1) ((n - a) * 1) (fun j => f (a + j)) := by
  unfold cutS
  by_cases h1 : cap = a
  · exact .inl (by omega)
  · rw [if_neg h1, Nat.mul_one, Nat.mul_one]
    exact h.cut a
theorem trn_a {cn : Nat → Nat} {n t j : Nat} (h : j < (n - t) * 1) : nw cn (t + j) = nw (trn cn n t) (0 * 1 + j) := by
  unfold nw trn
  rw [if_pos (by omega), Nat.zero_mul, Nat.zero_add]
theorem trn_b {cn : Nat → Nat} {n t j : Nat} : nw cn j = nw (trn cn n t) ((0 + (n - t)) * 1 + j) := by
  unfold nw trn
  rw [if_neg (by omega), show (0 + (n - t)) * 1 + j - (n - t) = j by omega]
theorem trn_lt {cn : Nat → Nat} {n t : Nat} (h : ∀ i, cn i < 4294967296) (i : Nat) : trn cn n t i < 4294967296 := by
  unfold trn
  split <;> exact h _
theorem many_perm {cn dn : Nat → Nat} {n : Nat} (h : ((List.range n).map cn).Perm ((List.range n).map dn)) : many cn n = many dn n := by
  rw [← nz_many, ← nz_many, (nz_perm h).length_eq]
theorem sum_perm {cn dn : Nat → Nat} {n : Nat} (h : ((List.range n).map cn).Perm ((List.range n).map dn)) : H.sg n cn = H.sg n dn := by
  have e : ∀ f : Nat → Nat, sm (fun x : Nat => x) ((List.range n).map f) = H.sg n f := fun f => by
    rw [← sg_range]
    unfold sm
    rw [List.map_map]
    rfl
  rw [← e, ← e, sm_perm _ h]
end H
open W R
namespace Q
open H Z
theorem cst_sum {cn : Nat → Nat} {n L : Nat} (hL1 : 1 ≤ L) (hL : L ≤ 15) (hm : many cn n = 1) : cst cn (zt cn n L) n = H.sg n cn := by
  rw [cst_tl]
  refine sg_congr fun i hi => ?_
  have h2 : many cn n ≤ 2 ^ L := by rw [hm]; exact Nat.one_le_two_pow
  have h := (tl_fit hL1 hL h2 i hi).1
  by_cases hc : cn i = 0
  · rw [hc, Nat.zero_mul]
  · have e : tl cn n L i = 1 := by
      unfold tl
      rw [if_pos (by rw [rsg_len]; exact hm), if_pos (rsg_in.2 ⟨hi, hc⟩)]
    rw [e, Nat.mul_one]
theorem cst_turn {cn dn : Nat → Nat} {n L : Nat} (hL1 : 1 ≤ L) (hL : L ≤ 15) (hm : many cn n ≤ 2 ^ L) (h : ((List.range n).map cn).Perm ((List.range n).map dn)) : cst cn (zt cn n L) n = cst dn (zt dn n L) n := by
  have e := many_perm h
  by_cases h0 : many cn n = 0
  · rw [cst_none h0, cst_none (by rw [← e]; exact h0)]
  by_cases h1 : many cn n = 1
  · rw [cst_sum hL1 hL h1, cst_sum hL1 hL (by rw [← e]; exact h1), sum_perm h]
  · rw [cst_wl hL1 hL hm (by omega) up_rsg rsg_nz]
    exact (cst_wl hL1 hL (by rw [← e]; exact hm) (by omega) up_rsg (rsg_nz.trans (nz_perm h))).symm
set_option maxHeartbeats 8000000 in
theorem order_walk {S : Option Addr} {n c : Nat} {q z : Int} {cn : Nat → Nat} (hcn : ∀ i, cn i < 4294967296) (hnc : n ≤ c) (hz : -9223372036854775808 ≤ z ∧ z < 9223372036854775808) (w : World) (hS : Rc w S n (nwA cn)) : Ret 11 #[.slice S n c, .int .i64 q, .int .i64 z] w (.bool true) := by
  obtain ⟨hz1, hz2⟩ := hz
  replace hS : Rc w S n (H.nw cn) := hS
  go_enter Try.func11, Try.ntmps11
  have hO := Own.start w
  go_upto_region 0 with (fail)
  refine wp_region_list (WL.out ?_)
  refine g_val (.bool false) ?_
  refine g_nil ?_
  simp only [Act.put, List.setIfInBounds_toArray, List.set_cons_succ, List.set_cons_zero]
  go_upto_region 1 with (fail)
  refine wp_region_list (WL.out ?_)
  refine g_call hO 13 #[] (.bool true) (Awake_c w) ?_
  intro w1 hb17 hO
  refine g_val (.bool true) ?_
  refine g_nil ?_
  simp only [Act.put, List.setIfInBounds_toArray, List.set_cons_succ, List.set_cons_zero]
  by_cases hbig : 60 < n
  · have hbig' := hbig
    go_upto_region 2 with (fail)
    refine wp_region_list (WL.out ?_)
    refine g_val (.slice S n c) ?_
    refine g_val (Nv .i64 n) ?_
    refine g_val (.bool true) ?_ (B.gtr_int (a := n) (c := 60) (b := true) (decide_eq_true hbig) w1)
    refine g_val (.bool true) ?_
    refine g_skip ?_
    refine g_skip ?_
    refine g_val (.bool true) ?_
    refine g_val (.bool true) ?_
    refine g_skip ?_
    refine g_skip ?_
    refine g_val (.bool true) ?_
    refine g_nil ?_
    simp only [Act.put, List.setIfInBounds_toArray, List.set_cons_succ, List.set_cons_zero]
    go_upto_region 3 with (fail)
    refine wp_region_list (WL.out ?_)
    refine g_val (.bool true) ?_
    refine g_val (.bool true) ?_
    refine g_nil ?_
    simp only [Act.put, List.setIfInBounds_toArray, List.set_cons_succ, List.set_cons_zero]
    have HF := hide hO.low
    clear hO
    go_wp2_with (fail)
    go_ret
    exact ⟨rfl, HF.out⟩
  · have hn : n ≤ 60 := by omega
    by_cases h1 : q < 1
    · have h1' := h1
      go_upto_region 2 with (fail)
      refine wp_region_list (WL.out ?_)
      refine g_val (.slice S n c) ?_
      refine g_val (Nv .i64 n) ?_
      refine g_val (.bool false) ?_ (B.gtr_int (a := n) (c := 60) (b := false) (decide_eq_false hbig) w1)
      refine g_val (.bool false) ?_
      refine g_val (.int .i64 q) ?_
      refine g_val (.bool true) ?_ (lssI_int (a := q) (c := 1) (decide_eq_true h1) w1)
      refine g_val (.bool true) ?_
      refine g_val (.bool true) ?_
      refine g_skip ?_
      refine g_skip ?_
      refine g_val (.bool true) ?_
      refine g_nil ?_
      simp only [Act.put, List.setIfInBounds_toArray, List.set_cons_succ, List.set_cons_zero]
      go_upto_region 3 with (fail)
      refine wp_region_list (WL.out ?_)
      refine g_val (.bool true) ?_
      refine g_val (.bool true) ?_
      refine g_nil ?_
      simp only [Act.put, List.setIfInBounds_toArray, List.set_cons_succ, List.set_cons_zero]
      have HF := hide hO.low
      clear hO
      go_wp2_with (fail)
      go_ret
      exact ⟨rfl, HF.out⟩
    · have h1' := h1
      by_cases h2 : 15 < q
      · have h2' := h2
        go_upto_region 2 with (fail)
        refine wp_region_list (WL.out ?_)
        refine g_val (.slice S n c) ?_
        refine g_val (Nv .i64 n) ?_
        refine g_val (.bool false) ?_ (B.gtr_int (a := n) (c := 60) (b := false) (decide_eq_false hbig) w1)
        refine g_val (.bool false) ?_
        refine g_val (.int .i64 q) ?_
        refine g_val (.bool false) ?_ (lssI_int (a := q) (c := 1) (decide_eq_false h1) w1)
        refine g_val (.bool false) ?_
        refine g_val (.bool false) ?_
        refine g_val (.int .i64 q) ?_
        refine g_val (.bool true) ?_ (gtrI_int (a := q) (c := 15) (decide_eq_true h2) w1)
        refine g_val (.bool true) ?_
        refine g_nil ?_
        simp only [Act.put, List.setIfInBounds_toArray, List.set_cons_succ, List.set_cons_zero]
        go_upto_region 3 with (fail)
        refine wp_region_list (WL.out ?_)
        refine g_val (.bool true) ?_
        refine g_val (.bool true) ?_
        refine g_nil ?_
        simp only [Act.put, List.setIfInBounds_toArray, List.set_cons_succ, List.set_cons_zero]
        have HF := hide hO.low
        clear hO
        go_wp2_with (fail)
        go_ret
        exact ⟨rfl, HF.out⟩
      · have h2' := h2
        go_upto_region 2 with (fail)
        refine wp_region_list (WL.out ?_)
        refine g_val (.slice S n c) ?_
        refine g_val (Nv .i64 n) ?_
        refine g_val (.bool false) ?_ (B.gtr_int (a := n) (c := 60) (b := false) (decide_eq_false hbig) w1)
        refine g_val (.bool false) ?_
        refine g_val (.int .i64 q) ?_
        refine g_val (.bool false) ?_ (lssI_int (a := q) (c := 1) (decide_eq_false h1) w1)
        refine g_val (.bool false) ?_
        refine g_val (.bool false) ?_
        refine g_val (.int .i64 q) ?_
        refine g_val (.bool false) ?_ (gtrI_int (a := q) (c := 15) (decide_eq_false h2) w1)
        refine g_val (.bool false) ?_
        refine g_nil ?_
        simp only [Act.put, List.setIfInBounds_toArray, List.set_cons_succ, List.set_cons_zero]
        obtain ⟨L, rfl⟩ : ∃ L : Nat, q = (L : Int) := ⟨q.toNat, by omega⟩
        have hL1 : 1 ≤ L := by omega
        have hL : L ≤ 15 := by omega
        clear h1 h1' h2 h2' hbig
        have HO := hide hO
        clear hO
        go_upto_if 31 with (fail)
        go_cut [2] (fun s wc => ∃ a : Nat, s = .int .i64 (a : Int) ∧ wc = w1)
        case first =>
          by_cases hneg : z < 0
          · have hw1 : IntKind.i64.wrap (z + 1) = z + 1 := by simp [IntKind.wrap, IntKind.bits, IntKind.signed]; omega
            have hw2 : IntKind.i64.wrap (-(z + 1)) = -(z + 1) := by simp [IntKind.wrap, IntKind.bits, IntKind.signed]; omega
            go_wp2_with (fail)
            go_meet
            exact ⟨(-(z + 1)).toNat, by first | go_num | (congr 1; omega), rfl⟩
          · go_wp2_with (fail)
            go_meet
            exact ⟨z.toNat, by first | go_num | (congr 1; omega), rfl⟩
        case rest =>
          obtain ⟨a, rfl, hwc⟩ := hcut
          obtain rfl : w1 = wc := hwc.symm
          obtain ⟨t, ht⟩ : ∃ t, a % (n + 1) = t := ⟨_, rfl⟩
          have htn : t ≤ n := by have := Nat.mod_lt a (show 0 < n + 1 by omega); omega
          go_upto_region 6 with (fail)
          refine wp_region_list (WL.out ?_)
          refine g_val (Nv .i64 a) ?_
          refine g_val (.slice S n c) ?_
          refine g_val (Nv .i64 n) ?_
          refine g_val (Nv .i64 (n + 1)) ?_ (B.add_int (a := n) (c := 1) (d := n + 1) rfl (by omega) w1)
          refine g_val (Nv .i64 t) ?_ (B.rem_int (a := a) (c := n + 1) (d := t) ht (by omega) (by omega) w1)
          refine g_val (Nv .i64 t) ?_
          refine g_nil ?_
          simp only [Act.put, List.setIfInBounds_toArray, List.set_cons_succ, List.set_cons_zero]
          clear ht hz1 hz2
          have HL := hide HO.out.low
          clear HO
          have hS1 := hS.low HL.out
          have hO := Own.start w1
          go_upto_region 7 with (fail)
          refine Rf.pf (fun ν => [(40, .slice (some ⟨ν 0, 0, none⟩) 0 0), (41, .slice S n c), (42, Nv .i64 t), (43, .slice (cutS S t c 1) (n - t) (c - t)), (44, .slice (some ⟨ν 4, 0, none⟩) (0 + (n - t)) (0 + (n - t) + ν 104)), (45, .slice S n c), (46, Nv .i64 t), (47, .slice S t c), (48, .slice (some ⟨ν 8, 0, none⟩) (0 + (n - t) + t) (0 + (n - t) + t + ν 108)), (8, .slice (some ⟨ν 8, 0, none⟩) (0 + (n - t) + t) (0 + (n - t) + t + ν 108))]) (Rf.OD w1 (fun D ν => (bif D 8 then [(ν 8, cl (zc 1 (.int .u32 0)) ((0 + (n - t) + t + ν 108) * 1) ((0 + (n - t) + t) * 1) (H.nw (trn cn n t)), 24)] else bif D 4 then [(ν 4, cl (zc 1 (.int .u32 0)) ((0 + (n - t) + ν 104) * 1) ((0 + (n - t)) * 1) (H.nw (trn cn n t)), 24)] else bif D 0 then [(ν 0, #[], 24)] else [] : List Row))) (fun _ => 0) hO.drew (Rg.ac (Rf.fnw (fun ν q => .slice (some ⟨q, 0, none⟩) 0 0) (fun _ => #[]) 24 (fun ν w => by kernel_rfl) (fun _ => u32_nil_fit) (fun D ν nq my => by have f0 : D 0 = false := my.not; have f4 : D 4 = false := my.nf (k := 4) f0 (by kernel_rfl); have f8 : D 8 = false := my.nf (k := 8) f4 (by kernel_rfl); have e : ∀ b0 b4 b8 : Bool, b0 = false → b4 = false → b8 = false → ((bif b8 then [(ν 8, cl (zc 1 (.int .u32 0)) ((0 + (n - t) + t + ν 108) * 1) ((0 + (n - t) + t) * 1) (H.nw (trn cn n t)), 24)] else bif b4 then [(ν 4, cl (zc 1 (.int .u32 0)) ((0 + (n - t) + ν 104) * 1) ((0 + (n - t)) * 1) (H.nw (trn cn n t)), 24)] else bif b0 then [(ν 0, #[], 24)] else [] : List Row) ++ ([(nq, #[], 24)] : List Row)).Perm (bif b8 then [(ν 8, cl (zc 1 (.int .u32 0)) ((0 + (n - t) + t + ν 108) * 1) ((0 + (n - t) + t) * 1) (H.nw (trn cn n t)), 24)] else bif b4 then [(ν 4, cl (zc 1 (.int .u32 0)) ((0 + (n - t) + ν 104) * 1) ((0 + (n - t)) * 1) (H.nw (trn cn n t)), 24)] else bif true then [(nq, #[], 24)] else [] : List Row) := (by intro b0 b4 b8; intros; subst_vars; exact List.Perm.refl _); exact e _ _ _ f0 f4 f8)) (Rg.ac Rf.fv (Rg.ac Rf.fv (Rg.ac (Rf.fx (fun _ => .slice (cutS S t c 1) (n - t) (c - t)) (fun _ w => b_loW htn w)) (Rg.ac (Rf.fap (n := 0) (m := (n - t)) (g := (H.nw (trn cn n t))) (fun ν => .slice (some ⟨ν 0, 0, none⟩) 0 0) (fun ν => .slice (cutS S t c 1) (n - t) (c - t)) (fun D ν => []) el_w (fun D ν w9 my hO => by have f0 : D 0 = true := my.pre 0 (by kernel_rfl); have f4 : D 4 = false := my.not; have f8 : D 8 = false := my.nf (k := 8) f4 (by kernel_rfl); have e : ∀ b0 b4 b8 : Bool, b0 = true → b4 = false → b8 = false → Own w1 w9 (bif b8 then [(ν 8, cl (zc 1 (.int .u32 0)) ((0 + (n - t) + t + ν 108) * 1) ((0 + (n - t) + t) * 1) (H.nw (trn cn n t)), 24)] else bif b4 then [(ν 4, cl (zc 1 (.int .u32 0)) ((0 + (n - t) + ν 104) * 1) ((0 + (n - t)) * 1) (H.nw (trn cn n t)), 24)] else bif b0 then [(ν 0, #[], 24)] else [] : List Row) → Own w1 w9 [(ν 0, #[], 24)] := (by intro b0 b4 b8; intros; subst_vars; assumption); exact .inr ⟨ν 0, 0, rfl, e _ _ _ f0 f4 f8 hO⟩) (fun ν h => by injection h with h1 _ _; cases h1) (fun D ν w my hO => src_rc el_w (c - t) ((rc_cutW (hS1.low (Own.low hO)) hnc htn).congr fun j hj => trn_a hj) (fun j hj => rfl)) (fun i hi => rfl) (by omega) (fun D ν q d my => by have f0 : D 0 = true := my.pre 0 (by kernel_rfl); have f4 : D 4 = false := my.not; have f8 : D 8 = false := my.nf (k := 8) f4 (by kernel_rfl); have e : ∀ b0 b4 b8 : Bool, b0 = true → b4 = false → b8 = false → (([] : List Row) ++ ([(q, cl (zc 1 (.int .u32 0)) ((0 + (n - t) + d) * 1) ((0 + (n - t)) * 1) (H.nw (trn cn n t)), 24)] : List Row)).Perm (bif b8 then [(ν 8, cl (zc 1 (.int .u32 0)) ((0 + (n - t) + t + ν 108) * 1) ((0 + (n - t) + t) * 1) (H.nw (trn cn n t)), 24)] else bif true then [(q, cl (zc 1 (.int .u32 0)) ((0 + (n - t) + d) * 1) ((0 + (n - t)) * 1) (H.nw (trn cn n t)), 24)] else bif b0 then [(ν 0, #[], 24)] else [] : List Row) := (by intro b0 b4 b8; intros; subst_vars; exact List.Perm.refl _); exact e _ _ _ f0 f4 f8)) (Rg.ac Rf.fv (Rg.ac Rf.fv (Rg.ac (Rf.fx (fun _ => .slice S t c) (fun _ w => b_hiW htn hnc w)) (Rg.ac (Rf.fap (n := 0 + (n - t)) (m := t) (g := (H.nw (trn cn n t))) (fun ν => .slice (some ⟨ν 4, 0, none⟩) (0 + (n - t)) (0 + (n - t) + ν 104)) (fun ν => .slice S t c) (fun D ν => []) el_w (fun D ν w9 my hO => by have f4 : D 4 = true := my.pre 4 (by kernel_rfl); have f8 : D 8 = false := my.not; have e : ∀ b0 b4 b8 : Bool, b4 = true → b8 = false → Own w1 w9 (bif b8 then [(ν 8, cl (zc 1 (.int .u32 0)) ((0 + (n - t) + t + ν 108) * 1) ((0 + (n - t) + t) * 1) (H.nw (trn cn n t)), 24)] else bif b4 then [(ν 4, cl (zc 1 (.int .u32 0)) ((0 + (n - t) + ν 104) * 1) ((0 + (n - t)) * 1) (H.nw (trn cn n t)), 24)] else bif b0 then [(ν 0, #[], 24)] else [] : List Row) → Own w1 w9 [(ν 4, cl (zc 1 (.int .u32 0)) ((0 + (n - t) + ν 104) * 1) ((0 + (n - t)) * 1) (H.nw (trn cn n t)), 24)] := (by intro b0 b4 b8; intros; subst_vars; assumption); exact .inr ⟨ν 4, ν 104, rfl, e _ _ _ f4 f8 hO⟩) (fun ν h => by injection h with h1 _ _; cases h1) (fun D ν w my hO => src_rc el_w c (((hS1.low (Own.low hO)).take (t * 1) (by omega)).congr fun j hj => trn_b) (fun j hj => rfl)) (fun i hi => rfl) (by omega) (fun D ν q d my => by have f4 : D 4 = true := my.pre 4 (by kernel_rfl); have f8 : D 8 = false := my.not; have e : ∀ b0 b4 b8 : Bool, b4 = true → b8 = false → (([] : List Row) ++ ([(q, cl (zc 1 (.int .u32 0)) ((0 + (n - t) + t + d) * 1) ((0 + (n - t) + t) * 1) (H.nw (trn cn n t)), 24)] : List Row)).Perm (bif true then [(q, cl (zc 1 (.int .u32 0)) ((0 + (n - t) + t + d) * 1) ((0 + (n - t) + t) * 1) (H.nw (trn cn n t)), 24)] else bif b4 then [(ν 4, cl (zc 1 (.int .u32 0)) ((0 + (n - t) + ν 104) * 1) ((0 + (n - t)) * 1) (H.nw (trn cn n t)), 24)] else bif b0 then [(ν 0, #[], 24)] else [] : List Row) := (by intro b0 b4 b8; intros; subst_vars; exact List.Perm.refl _); exact e _ _ _ f4 f8)) (Rg.ac Rf.fv Rg.an)))))))))) ?_
          intro D ν wD hall hO
          have f0 : D 0 = true := hall 0 (by decide)
          have f4 : D 4 = true := hall 4 (by decide)
          have f8 : D 8 = true := hall 8 (by decide)
          replace hO : Own w1 wD [(ν 8, cl (zc 1 (.int .u32 0)) ((0 + (n - t) + t + ν 108) * 1) ((0 + (n - t) + t) * 1) (H.nw (trn cn n t)), 24)] := by
            have e : ∀ b0 b4 b8 : Bool, b0 = true → b4 = true → b8 = true → Own w1 wD (bif b8 then [(ν 8, cl (zc 1 (.int .u32 0)) ((0 + (n - t) + t + ν 108) * 1) ((0 + (n - t) + t) * 1) (H.nw (trn cn n t)), 24)] else bif b4 then [(ν 4, cl (zc 1 (.int .u32 0)) ((0 + (n - t) + ν 104) * 1) ((0 + (n - t)) * 1) (H.nw (trn cn n t)), 24)] else bif b0 then [(ν 0, #[], 24)] else [] : List Row) → Own w1 wD [(ν 8, cl (zc 1 (.int .u32 0)) ((0 + (n - t) + t + ν 108) * 1) ((0 + (n - t) + t) * 1) (H.nw (trn cn n t)), 24)] := by (intros; subst_vars; assumption)
            exact e _ _ _ f0 f4 f8 hO
          clear hall f0 f4 f8
          simp only [Rg.putL, Act.put, List.setIfInBounds_toArray, List.set_cons_succ, List.set_cons_zero]
          generalize ν 0 = q0 at hO ⊢
          generalize ν 4 = q4 at hO ⊢
          generalize ν 104 = q104 at hO ⊢
          generalize ν 8 = q8 at hO ⊢
          generalize ν 108 = q108 at hO ⊢
          clear ν D
          have hN : 0 + (n - t) + t = n := by omega
          have hrow := hO.row 0 rfl
          rw [hN] at hrow ⊢
          have hR : Rc wD (some ⟨q8, 0, none⟩) n (H.nw (trn cn n t)) := by have h := rc_cl hrow (Nat.mul_le_mul_right 1 (Nat.le_add_right _ _)); rwa [Nat.mul_one] at h
          have hSD := hS1.low hO.low
          have HL2 := hide (HL.out.trans (hO.low.mono HL.out.size))
          clear hrow hO hN HL hS1
          obtain ⟨dn, hdn⟩ : ∃ dn, trn cn n t = dn := ⟨_, rfl⟩
          have Hpm : Hid (((List.range n).map cn).Perm ((List.range n).map dn)) := hide (by rw [← hdn]; exact trn_perm htn)
          have hdl : ∀ i, dn i < 4294967296 := fun i => by rw [← hdn]; exact trn_lt hcn i
          rw [hdn] at hR
          clear hdn
          have hO := Own.start wD
          by_cases hfit : many cn n ≤ 2 ^ L
          · have Hfit := hide hfit
            have Hfit2 : Hid (many dn n ≤ 2 ^ L) := hide (by rw [← many_perm Hpm.out]; exact hfit)
            clear hfit
            go_upto_region 8 with (fail)
            refine wp_region_list (WL.out ?_)
            refine g_val (.slice S n c) ?_
            refine g_val (Nv .i64 L) ?_
            refine g_any 14 #[.slice S n c, Nv .i64 L] (PLens_y hcn (by omega) hL1 hL Hfit.out wD (hSD.low hO.low)) ?_
            rintro _ w2 ⟨q1, rfl, hO2⟩
            have hO9 := own_join hO hO2
            clear hO hO2
            have hO := hO9
            clear hO9
            replace hO : Own wD w2 [(q1, ints n (zt cn n L), 3)] := hO
            refine g_val (.tuple #[.slice (some (⟨q1, 0, none⟩ : Addr)) n n, Nv .i64 0]) ?_
            refine g_val (.slice (some (⟨q1, 0, none⟩ : Addr)) n n) ?_
            refine g_val (Nv .i64 0) ?_
            refine g_val (.slice (some (⟨q1, 0, none⟩ : Addr)) n n) ?_
            refine g_val (Nv .i64 0) ?_
            refine g_nil ?_
            simp only [Act.put, List.setIfInBounds_toArray, List.set_cons_succ, List.set_cons_zero]
            go_upto_region 9 with (fail)
            refine wp_region_list (WL.out ?_)
            refine g_val (.slice (some ⟨q8, 0, none⟩) (n) (n + q108)) ?_
            refine g_val (Nv .i64 L) ?_
            refine g_any 14 #[.slice (some ⟨q8, 0, none⟩) n (n + q108), Nv .i64 L] (PLens_y hdl (by omega) hL1 hL Hfit2.out w2 (hR.low hO.low)) ?_
            rintro _ w3 ⟨q2, rfl, hO2⟩
            have hO9 := own_join hO hO2
            clear hO hO2
            have hO := hO9
            clear hO9
            replace hO : Own wD w3 [(q1, ints n (zt cn n L), 3), (q2, ints n (zt dn n L), 3)] := hO
            refine g_val (.tuple #[.slice (some (⟨q2, 0, none⟩ : Addr)) n n, Nv .i64 0]) ?_
            refine g_val (.slice (some (⟨q2, 0, none⟩ : Addr)) n n) ?_
            refine g_val (Nv .i64 0) ?_
            refine g_val (.slice (some (⟨q2, 0, none⟩ : Addr)) n n) ?_
            refine g_val (Nv .i64 0) ?_
            refine g_nil ?_
            simp only [Act.put, List.setIfInBounds_toArray, List.set_cons_succ, List.set_cons_zero]
            go_upto_region 10 with (fail)
            refine wp_region_list (WL.out ?_)
            refine g_val (Nv .i64 0) ?_
            refine g_val (.bool false) ?_
            refine g_nil ?_
            simp only [Act.put, List.setIfInBounds_toArray, List.set_cons_succ, List.set_cons_zero]
            go_upto_region 12 with (fail)
            refine wp_region_list (WL.out ?_)
            refine g_val (.slice (some (⟨q1, 0, none⟩ : Addr)) n n) ?_
            refine g_val (Nv .i64 n) ?_
            refine g_val (.slice S n c) ?_
            refine g_val (Nv .i64 n) ?_
            refine g_val (.bool false) ?_ (B.neq_int (a := n) (c := n) (b := false) (decide_eq_false (fun h => h rfl)) w3)
            refine g_val (.bool false) ?_
            refine g_val (.slice (some (⟨q2, 0, none⟩ : Addr)) n n) ?_
            refine g_val (Nv .i64 n) ?_
            refine g_val (.slice S n c) ?_
            refine g_val (Nv .i64 n) ?_
            refine g_val (.bool false) ?_ (B.neq_int (a := n) (c := n) (b := false) (decide_eq_false (fun h => h rfl)) w3)
            refine g_val (.bool false) ?_
            refine g_nil ?_
            simp only [Act.put, List.setIfInBounds_toArray, List.set_cons_succ, List.set_cons_zero]
            go_upto_region 14 with (fail)
            refine wp_region_list (WL.out ?_)
            refine g_val (.slice S n c) ?_
            refine g_val (.slice (some (⟨q1, 0, none⟩ : Addr)) n n) ?_
            refine g_val (Nv .i64 L) ?_
            refine g_call hO 15 #[.slice S n c, .slice (some (⟨q1, 0, none⟩ : Addr)) n n, Nv .i64 L] (.tuple #[Nv .u64 (cst cn (zt cn n L) n), .bool true]) (CostT_c (by omega) hL1 hL Hfit.out hcn w3 (hSD.low hO.low) (rc_int (hO.row 0 rfl))) ?_
            intro w4 hb89 hO
            refine g_val (.tuple #[Nv .u64 (cst cn (zt cn n L) n), .bool true]) ?_
            refine g_val (Nv .u64 (cst cn (zt cn n L) n)) ?_
            refine g_val (.bool true) ?_
            refine g_val (Nv .u64 (cst cn (zt cn n L) n)) ?_
            refine g_val (.bool true) ?_
            refine g_nil ?_
            simp only [Act.put, List.setIfInBounds_toArray, List.set_cons_succ, List.set_cons_zero]
            go_upto_region 15 with (fail)
            refine wp_region_list (WL.out ?_)
            refine g_val (.slice (some ⟨q8, 0, none⟩) (n) (n + q108)) ?_
            refine g_val (.slice (some (⟨q2, 0, none⟩ : Addr)) n n) ?_
            refine g_val (Nv .i64 L) ?_
            refine g_call hO 15 #[.slice (some ⟨q8, 0, none⟩) (n) (n + q108), .slice (some (⟨q2, 0, none⟩ : Addr)) n n, Nv .i64 L] (.tuple #[Nv .u64 (cst dn (zt dn n L) n), .bool true]) (CostT_c (by omega) hL1 hL Hfit2.out hdl w4 (hR.low hO.low) (rc_int (hO.row 1 rfl))) ?_
            intro w5 hb96 hO
            refine g_val (.tuple #[Nv .u64 (cst dn (zt dn n L) n), .bool true]) ?_
            refine g_val (Nv .u64 (cst dn (zt dn n L) n)) ?_
            refine g_val (.bool true) ?_
            refine g_val (Nv .u64 (cst dn (zt dn n L) n)) ?_
            refine g_val (.bool true) ?_
            refine g_nil ?_
            simp only [Act.put, List.setIfInBounds_toArray, List.set_cons_succ, List.set_cons_zero]
            go_upto_region 16 with (fail)
            refine wp_region_list (WL.out ?_)
            refine g_val (.bool true) ?_
            refine g_val (.bool true) ?_
            refine g_val (Nv .i64 0) ?_
            refine g_val (.bool true) ?_
            refine g_val (.bool true) ?_
            refine g_val (.bool true) ?_
            refine g_val (.bool true) ?_
            refine g_val (.bool true) ?_
            refine g_val (.bool true) ?_
            refine g_val (.bool true) ?_
            refine g_val (.bool true) ?_
            refine g_val (.bool true) ?_
            refine g_val (Nv .u64 (cst cn (zt cn n L) n)) ?_
            refine g_val (Nv .u64 (cst dn (zt dn n L) n)) ?_
            refine g_val (.bool true) ?_ (B.eql_u64 (a := cst cn (zt cn n L) n) (c := cst dn (zt dn n L) n) (b := true) (decide_eq_true (cst_turn hL1 hL Hfit.out Hpm.out)) w5)
            refine g_val (.bool true) ?_
            refine g_val (.bool true) ?_
            refine g_nil ?_
            simp only [Act.put, List.setIfInBounds_toArray, List.set_cons_succ, List.set_cons_zero]
            have HF := hide (HL2.out.trans (hO.low.mono HL2.out.size))
            clear hO
            go_wp2_with (fail)
            go_ret
            exact ⟨rfl, HF.out⟩
          · have Hfit := hide hfit
            have Hfit2 : Hid (¬ many dn n ≤ 2 ^ L) := hide (by rw [← many_perm Hpm.out]; exact hfit)
            clear hfit
            go_upto_region 8 with (fail)
            refine wp_region_list (WL.out ?_)
            refine g_val (.slice S n c) ?_
            refine g_val (Nv .i64 L) ?_
            refine g_call hO 14 #[.slice S n c, Nv .i64 L] (.tuple #[.slice none 0 0, Nv .i64 1]) (PLens_n hcn (by omega) hL1 hL Hfit.out wD (hSD.low hO.low)) ?_
            intro w2 hb52 hO
            refine g_val (.tuple #[.slice none 0 0, Nv .i64 1]) ?_
            refine g_val (.slice none 0 0) ?_
            refine g_val (Nv .i64 1) ?_
            refine g_val (.slice none 0 0) ?_
            refine g_val (Nv .i64 1) ?_
            refine g_nil ?_
            simp only [Act.put, List.setIfInBounds_toArray, List.set_cons_succ, List.set_cons_zero]
            go_upto_region 9 with (fail)
            refine wp_region_list (WL.out ?_)
            refine g_val (.slice (some ⟨q8, 0, none⟩) (n) (n + q108)) ?_
            refine g_val (Nv .i64 L) ?_
            refine g_call hO 14 #[.slice (some ⟨q8, 0, none⟩) (n) (n + q108), Nv .i64 L] (.tuple #[.slice none 0 0, Nv .i64 1]) (PLens_n hdl (by omega) hL1 hL Hfit2.out w2 (hR.low hO.low)) ?_
            intro w3 hb58 hO
            refine g_val (.tuple #[.slice none 0 0, Nv .i64 1]) ?_
            refine g_val (.slice none 0 0) ?_
            refine g_val (Nv .i64 1) ?_
            refine g_val (.slice none 0 0) ?_
            refine g_val (Nv .i64 1) ?_
            refine g_nil ?_
            simp only [Act.put, List.setIfInBounds_toArray, List.set_cons_succ, List.set_cons_zero]
            go_upto_region 10 with (fail)
            refine wp_region_list (WL.out ?_)
            refine g_val (Nv .i64 1) ?_
            refine g_val (.bool true) ?_
            refine g_nil ?_
            simp only [Act.put, List.setIfInBounds_toArray, List.set_cons_succ, List.set_cons_zero]
            go_upto_region 11 with (fail)
            refine wp_region_list (WL.out ?_)
            refine g_val (.bool true) ?_
            refine g_val (.bool true) ?_
            refine g_val (Nv .i64 1) ?_
            refine g_val (Nv .i64 1) ?_
            refine g_val (.bool true) ?_
            refine g_val (.bool true) ?_
            refine g_val (.bool true) ?_
            refine g_val (Nv .i64 1) ?_
            refine g_val (.bool true) ?_
            refine g_val (.bool true) ?_
            refine g_val (.bool true) ?_
            refine g_nil ?_
            simp only [Act.put, List.setIfInBounds_toArray, List.set_cons_succ, List.set_cons_zero]
            have HF := hide (HL2.out.trans (hO.low.mono HL2.out.size))
            clear hO
            go_wp2_with (fail)
            go_ret
            exact ⟨rfl, HF.out⟩
end Q
end
end Go.Proofs.Ytkljpidlfddgbaa

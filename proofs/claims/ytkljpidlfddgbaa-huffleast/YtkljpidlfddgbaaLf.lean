/- What Lengths tells is a code's; codes of one word. No conditions but those that each names. What the lengths that Lengths tells weigh. No conditions but those that each names. The walk of HuffLeast. No conditions but that counts are of 32 bits. -/
import Derived.Test.YtkljpidlfddgbaaSn
import Derived.Test.YtkljpidlfddgbaaSp
import Derived.Test.YtkljpidlfddgbaaRj
import Derived.Test.YtkljpidlfddgbaaRi
import Derived.Test.YtkljpidlfddgbaaTa
import Derived.Test.YtkljpidlfddgbaaRn
namespace Go.Proofs.Ytkljpidlfddgbaa
set_option maxRecDepth 100000
open Go.RowKit Rg B

section
namespace Q
open H
section
variable {cn : Nat → Nat} {n L : Nat}
abbrev zt (cn : Nat → Nat) (n L : Nat) (i : Nat) : Int := ((tl cn n L i : Nat) : Int)
theorem tl_fit (hL1 : 1 ≤ L) (hL : L ≤ 15) (hm : many cn n ≤ 2 ^ L) (i : Nat) (hi : i < n) : (tl cn n L i = 0 ↔ cn i = 0) ∧ tl cn n L i ≤ L := (tl_ok hL1 hL (by rw [rsg_len]; exact hm)).1 i hi
theorem ln_tl (hL1 : 1 ≤ L) (hL : L ≤ 15) (hm : many cn n ≤ 2 ^ L) (i : Nat) (hi : i < n) : ln (zt cn n L) i = tl cn n L i := by
  have := (tl_fit hL1 hL hm i hi).2
  unfold ln zt
  omega
theorem many_tl (hL1 : 1 ≤ L) (hL : L ≤ 15) (hm : many cn n ≤ 2 ^ L) : many (ln (zt cn n L)) n = many cn n := sg_congr fun i hi => by
  rw [ln_tl hL1 hL hm i hi]
  have := (tl_fit hL1 hL hm i hi).1
  by_cases h : cn i = 0
  · rw [if_neg (by have := this.2 h; omega), if_neg (by omega)]
  · rw [if_pos (by have : tl cn n L i ≠ 0 := fun e => h (this.1 e)
                   omega), if_pos (by omega)]
theorem room_tl (hL1 : 1 ≤ L) (hL : L ≤ 15) (hm : many cn n ≤ 2 ^ L) : room (ln (zt cn n L)) n = room (tl cn n L) n := sg_congr fun i hi => by rw [ln_tl hL1 hL hm i hi]
theorem okW_tl (hn : n ≤ 1000) (hL1 : 1 ≤ L) (hL : L ≤ 15) (hm : many cn n ≤ 2 ^ L) (h0 : many cn n ≠ 0) : okW (zt cn n L) n := by
  have h := tl_ok (c := cn) (n := n) hL1 hL (by rw [rsg_len]; exact hm)
  rw [rsg_len] at h
  refine ⟨hn, fun i hi => ?_, by rw [many_tl hL1 hL hm]; exact h0, ?_⟩
  · have := (h.1 i hi).2
    unfold zt
    omega
  · rw [many_tl hL1 hL hm, room_tl hL1 hL hm]
    by_cases h1 : many cn n = 1
    · exact .inr ⟨h1, h.2.1 h1⟩
    · exact .inl (h.2.2 (by omega)).1
end
section
variable {i n v : Nat}
theorem one_many (hi : i < n) (hv : 1 ≤ v) : many (fun j => if j = i then v else 0) n = 1 := by
  unfold many
  rw [sg_step (h := fun _ => 0) (d := 1) (i := i) hi ?_ ?_, sg_const, Nat.mul_zero]
  · intro k _ hk
    show (if 1 ≤ (if k = i then v else 0) then 1 else 0) = 0
    rw [if_neg hk]; rfl
  · show (if 1 ≤ (if i = i then v else 0) then 1 else 0) = 1
    rw [if_pos rfl, if_pos hv]
theorem one_tl (hi : i < n) (hv : 1 ≤ v) (L j : Nat) : tl (fun j => if j = i then v else 0) n L j = if j = i then 1 else 0 := by
  unfold tl
  rw [if_pos (by rw [rsg_len]; exact one_many hi hv)]
  by_cases h : j = i
  · rw [if_pos h, if_pos (rsg_in.2 ⟨by omega, by show (if j = i then v else 0) ≠ 0; rw [if_pos h]; omega⟩)]
  · have hn : ¬ j ∈ rsg (fun j => if j = i then v else 0) n := fun e => (rsg_in.1 e).2 (if_neg h)
    rw [if_neg h, if_neg hn]
variable {l : Nat → Nat}
theorem one_word (hi : i < n) (hl : l i = 1) (hr : room l n = 16384) : word l n i = 0 := by
  have := word_room (l := l) hi (by omega)
  rw [hl, hr] at this
  omega
theorem one_t0 (hi : i < n) (hl : ∀ j, j < n → l j = if j = i then 1 else 0) (hr : room l n = 16384) : tko l n (8 * 1) 254 0 15 0 = (i, 0, 1) := by
  have hli : l i = 1 := by rw [hl i hi, if_pos rfl]
  refine tko_found (by decide) (fd_some hi ?_ fun j hj => ?_)
  · unfold pW wd
    rw [if_pos (by omega), one_word hi hli hr, hli]
    decide
  · unfold pW
    rw [hl j (by omega), if_neg (by omega)]
    rfl
theorem one_t1 (hi : i < n) (hl : ∀ j, j < n → l j = if j = i then 1 else 0) (hr : room l n = 16384) : tko l n (8 * 1) 1 0 15 0 = (0, 130, 1) := by
  have hli : l i = 1 := by rw [hl i hi, if_pos rfl]
  have hf : fd (pW l n 1 (hv 1 0 1)) n = none := fd_none fun j hj => by
    unfold pW
    by_cases h : j = i
    · subst h
      have : wd l n j = 0 := by unfold wd; rw [if_pos (by omega), one_word hi hli hr]
      rw [this]
      simp [hv]
    · rw [hl j hj, if_neg h]
      rfl
  rw [tko, if_neg (by decide)]
  show (match fd (pW l n 1 (hv 1 0 1)) n with | some i => _ | none => _) = _
  rw [hf]
  show (if (0 : Nat) = 0 ∧ room l n = 16384 then _ else _) = _
  rw [if_pos ⟨rfl, hr⟩]
end
end Q
end
section
namespace B
theorem shl_iu {ρ : Operand → Value} {o : Oper} {x y : Operand} {a s d : Nat} (h : a * 2 ^ s = d) (hd : d < 9223372036854775808) (hs : s < 64) (w : World) (ho : o.op = .binOp .shl 3 x y 29 := by rfl) (hx : ρ x = Nv .i64 a := by kernel_rfl) (hy : ρ y = Nv .u64 s := by kernel_rfl) : (execOp ρ o).run Try.prog w = .ok (.value (Nv .i64 d)) w := by
  have h0 : (0 : Int) ≤ (s : Int) := by omega
  have h3 : (s : Int) < 64 := by omega
  have h4 : min s 64 = s := by omega
  have h1 : IntKind.i64.wrap ((a : Int) * 2 ^ s) = (d : Int) := by rw [show (a : Int) * 2 ^ s = ((a * 2 ^ s : Nat) : Int) by simp, h]; exact w_i64 _ hd
  clear h
  unfold execOp
  simp only [ho, hx, hy]
  go_simp
end B
namespace Q
open H
section
variable {cn : Nat → Nat} {n L : Nat}
theorem okC_tl (hL1 : 1 ≤ L) (hL : L ≤ 15) (hm : many cn n ≤ 2 ^ L) : okC cn (zt cn n L) L n := fun i hi => by
  have := tl_fit hL1 hL hm i hi
  unfold zt
  omega
theorem cst_tl : cst cn (zt cn n L) n = H.sg n fun i => cn i * tl cn n L i := sg_congr fun i _ => by
  show cn i * ((tl cn n L i : Nat) : Int).toNat = _
  rw [Int.toNat_natCast]
theorem rsg_nz : ((rsg cn n).map cn).Perm (nz cn n) := by
  rw [← pz_map]
  exact (rsg_perm cn n).map cn
theorem up_rsg : Up (fun x : Nat => x) ((rsg cn n).map cn) := by
  have h := rsg_up cn n
  unfold Up at *
  rw [List.pairwise_map]
  exact h
theorem cst_wl (hL1 : 1 ≤ L) (hL : L ≤ 15) (hm : many cn n ≤ 2 ^ L) (h2 : 2 ≤ many cn n) {s : List Nat} (hs : Up (fun x : Nat => x) s) (hp : s.Perm (nz cn n)) : cst cn (zt cn n L) n = wLeast s L := by
  have e : (rsg cn n).map cn = s := up_one up_rsg hs (rsg_nz.trans hp.symm)
  have h := ((tl_ok (c := cn) (n := n) hL1 hL (by rw [rsg_len]; exact hm)).2.2 (by rw [rsg_len]; exact h2)).2
  rw [cst_tl, h, ← e]
  unfold wLeast
  rw [List.length_map]
theorem cst_none (h0 : many cn n = 0) : cst cn (zt cn n L) n = 0 := by
  have h : ∀ i, i < n → cn i = 0 := fun i hi => by
    by_cases hc : cn i = 0
    · exact hc
    · have := rsg_in.2 ⟨hi, hc⟩
      have hl := rsg_len cn n
      rw [h0] at hl
      rw [List.length_eq_zero_iff.1 hl] at this
      cases this
  rw [cst_tl, sg_congr (h := fun _ => 0) fun i hi => by rw [h i hi, Nat.zero_mul], sg_const, Nat.mul_zero]
theorem cst_lower {z : Nat → Int} (hL1 : 1 ≤ L) (hL : L ≤ 15) (hm : many cn n ≤ 2 ^ L) (h2 : 2 ≤ many cn n) (h : okC cn z L n) (hr : room (ln z) n ≤ 2 ^ 15) : cst cn (zt cn n L) n ≤ cst cn z n := by
  rw [cst_wl hL1 hL hm h2 up_rsg rsg_nz]
  exact cost_lower hL up_rsg rsg_nz h hr
theorem CostT_c {S T : Option Addr} {c d : Nat} (hn : n ≤ 1000) (hL1 : 1 ≤ L) (hL : L ≤ 15) (hm : many cn n ≤ 2 ^ L) (hcn : ∀ i, cn i < 4294967296) (w : World) (hS : Rc w S n (H.nw cn)) (hT : Rc w T n (zi (zt cn n L))) : Ret 15 #[.slice S n c, .slice T n d, Nv .i64 L] w (.tuple #[Nv .u64 (cst cn (zt cn n L) n), .bool true]) := by
  refine (Cost_c hn hL hcn w hS hT).mono fun e w' hh => ?_
  obtain ⟨v, he, ⟨_, hv⟩ | ⟨hno, _⟩, hb⟩ := hh
  · exact ⟨hv ▸ he, hb⟩
  · exact absurd (okC_tl hL1 hL hm) hno
theorem RoomT_c {S : Option Addr} {c : Nat} {z : Nat → Int} (hz : ∀ i, i < n → 0 ≤ z i ∧ z i ≤ 15) (hn : n ≤ 2 ^ 30) (w : World) (hS : Rc w S n (zi z)) : Ret 16 #[.slice S n c] w (Nv .i64 (room (ln z) n)) :=
  Room_c (ln_le z) hn w (hS.congr fun i hi => by
    unfold zi H.ni
    rw [ln_eq (hz i hi)])
theorem many_next (k : Nat) : many cn (k + 1) = many cn k + if 1 ≤ cn k then 1 else 0 := rfl
end
end Q
end
section
open W R
namespace Q
open H Z
set_option maxHeartbeats 8000000 in
theorem least_walk {S : Option Addr} {n c : Nat} {q : Int} {cn : Nat → Nat} (hcn : ∀ i, cn i < 4294967296) (w : World) (hS : Rc w S n (nwA cn)) : Ret 4 #[.slice S n c, .int .i64 q] w (.bool true) := by
  replace hS : Rc w S n (H.nw cn) := hS
  go_enter Try.func4, Try.ntmps4
  have hO := Own.start w
  go_upto_region 0 with (fail)
  refine wp_region_list (WL.out ?_)
  refine g_val (.bool false) ?_
  refine g_nil ?_
  simp only [Act.put, List.setIfInBounds_toArray, List.set_cons_succ, List.set_cons_zero]
  go_upto_region 1 with (fail)
  refine wp_region_list (WL.out ?_)
  refine g_call hO 13 #[] (.bool true) (Awake_c w) ?_
  intro w1 hb13 hO
  refine g_val (.bool true) ?_
  refine g_nil ?_
  simp only [Act.put, List.setIfInBounds_toArray, List.set_cons_succ, List.set_cons_zero]
  by_cases hbig : 60 < n
  · have hbig' := hbig
    go_upto_region 2 with (fail)
    refine wp_region_list (WL.out ?_)
    refine g_val (.slice S n c) ?_
    refine g_val (Nv .i64 n) ?_
    refine g_val (.bool true) ?_ (B.gtr_int (a := n) (c := 60) (b := true) (decide_eq_true hbig) w1)
    refine g_nil ?_
    simp only [Act.put, List.setIfInBounds_toArray, List.set_cons_succ, List.set_cons_zero]
    go_upto_region 3 with (fail)
    refine wp_region_list (WL.out ?_)
    refine g_val (.bool true) ?_
    refine g_val (.bool true) ?_
    refine g_nil ?_
    simp only [Act.put, List.setIfInBounds_toArray, List.set_cons_succ, List.set_cons_zero]
    have HF := hide hO.low
    clear hO
    go_wp2_with (fail)
    go_ret
    exact ⟨rfl, HF.out⟩
  · have hn : n ≤ 60 := by omega
    go_upto_region 2 with (fail)
    refine wp_region_list (WL.out ?_)
    refine g_val (.slice S n c) ?_
    refine g_val (Nv .i64 n) ?_
    refine g_val (.bool false) ?_ (B.gtr_int (a := n) (c := 60) (b := false) (decide_eq_false hbig) w1)
    refine g_nil ?_
    simp only [Act.put, List.setIfInBounds_toArray, List.set_cons_succ, List.set_cons_zero]
    clear hbig
    go_upto_region 4 with (fail)
    refine wp_region_list (WL.out ?_)
    refine g_val (Nv .i64 0) ?_
    refine g_nil ?_
    simp only [Act.put, List.setIfInBounds_toArray, List.set_cons_succ, List.set_cons_zero]
    go_upto_region 5 with (fail)
    refine wp_region_list (WL.out ?_)
    refine g_val (Nv .i64 0) ?_
    refine g_nil ?_
    simp only [Act.put, List.setIfInBounds_toArray, List.set_cons_succ, List.set_cons_zero]
    have HO := hide hO
    clear hO
    go_wp2_with (fail)
    go_loopw [6, 7] (fun x6 x7 wr => ∃ k : Nat, k ≤ n ∧ x7 = .int .i64 (k : Int) ∧ x6 = Nv .i64 (many cn k) ∧ Own w wr []) (fun _ x7 _ => n - (intOf x7).toNat)
    case atStart => exact ⟨0, Nat.zero_le _, rfl, rfl, HO.out⟩
    case round =>
      clear HO
      obtain ⟨k, hk9, rfl, rfl, hO⟩ := hrel
      by_cases hz : k < n
      · have hk0 : 0 ≤ k := Nat.zero_le _
        go_upto_region 6 with (fail)
        refine wp_region_list (WL.out ?_)
        refine g_val (Nv .i64 k) ?_
        refine g_val (.slice S n c) ?_
        refine g_val (Nv .i64 n) ?_
        refine g_val (.bool true) ?_ (B.lss_int (a := k) (c := n) (b := true) (decide_eq_true hz) wr)
        refine g_nil ?_
        simp only [Act.put, List.setIfInBounds_toArray, List.set_cons_succ, List.set_cons_zero]
        obtain ⟨a, rfl, hck⟩ := hS.cell hz
        have hmk := many_le (l := cn) (n := k)
        have hnx := many_next (cn := cn) k
        by_cases hpos : 0 < cn k
        · rw [if_pos (show 1 ≤ cn k from hpos)] at hnx
          go_upto_region 8 with (fail)
          refine wp_region_list (WL.out ?_)
          refine g_val (.slice (some a) n c) ?_
          refine g_val (Nv .i64 k) ?_
          refine g_val (.pointer (some (a.add k))) ?_ (b_ixs (n := n) (c := c) hz Try.underlying23 sz_u32 wr)
          refine g_la (Nv .u32 (cn k)) (hck wr hO.low) agg_u32 ?_
          refine g_val (.bool true) ?_ (B.gtr_u32 (a := cn k) (c := 0) (b := true) (decide_eq_true hpos) wr)
          refine g_nil ?_
          simp only [Act.put, List.setIfInBounds_toArray, List.set_cons_succ, List.set_cons_zero]
          go_upto_region 9 with (fail)
          refine wp_region_list (WL.out ?_)
          refine g_val (Nv .i64 (many cn k)) ?_
          refine g_val (Nv .i64 (many cn (k + 1))) ?_ (B.add_int (a := many cn k) (c := 1) (d := many cn (k + 1)) hnx.symm (by omega) wr)
          refine g_val (Nv .i64 (many cn (k + 1))) ?_
          refine g_nil ?_
          simp only [Act.put, List.setIfInBounds_toArray, List.set_cons_succ, List.set_cons_zero]
          have HO := hide hO
          clear hO
          go_upto_region 7 with (fail)
          refine wp_region_list (WL.out ?_)
          refine g_val (Nv .i64 k) ?_
          refine g_val (Nv .i64 (k + 1)) ?_ (B.add_int (a := k) (c := 1) (d := k + 1) rfl (by omega) wr)
          refine g_val (Nv .i64 (k + 1)) ?_
          refine g_nil ?_
          simp only [Act.put, List.setIfInBounds_toArray, List.set_cons_succ, List.set_cons_zero]
          go_wp2_with (fail)
          go_roundw
          case rel => exact ⟨k + 1, hz, rfl, rfl, HO.out⟩
          case measure => show n - ((k + 1 : Nat) : Int).toNat < n - ((k : Nat) : Int).toNat; omega
        · rw [if_neg (show ¬ 1 ≤ cn k from hpos), Nat.add_zero] at hnx
          go_upto_region 8 with (fail)
          refine wp_region_list (WL.out ?_)
          refine g_val (.slice (some a) n c) ?_
          refine g_val (Nv .i64 k) ?_
          refine g_val (.pointer (some (a.add k))) ?_ (b_ixs (n := n) (c := c) hz Try.underlying23 sz_u32 wr)
          refine g_la (Nv .u32 (cn k)) (hck wr hO.low) agg_u32 ?_
          refine g_val (.bool false) ?_ (B.gtr_u32 (a := cn k) (c := 0) (b := false) (decide_eq_false hpos) wr)
          refine g_nil ?_
          simp only [Act.put, List.setIfInBounds_toArray, List.set_cons_succ, List.set_cons_zero]
          have HO := hide hO
          clear hO
          go_upto_region 7 with (fail)
          refine wp_region_list (WL.out ?_)
          refine g_val (Nv .i64 k) ?_
          refine g_val (Nv .i64 (k + 1)) ?_ (B.add_int (a := k) (c := 1) (d := k + 1) rfl (by omega) wr)
          refine g_val (Nv .i64 (k + 1)) ?_
          refine g_nil ?_
          simp only [Act.put, List.setIfInBounds_toArray, List.set_cons_succ, List.set_cons_zero]
          go_wp2_with (fail)
          go_roundw
          case rel => exact ⟨k + 1, hz, rfl, congrArg (fun x : Nat => Value.int .i64 ((x : Nat) : Int)) hnx.symm, HO.out⟩
          case measure => show n - ((k + 1 : Nat) : Int).toNat < n - ((k : Nat) : Int).toNat; omega
      · obtain rfl : k = n := by omega
        clear hk9
        go_upto_region 6 with (fail)
        refine wp_region_list (WL.out ?_)
        refine g_val (Nv .i64 k) ?_
        refine g_val (.slice S k c) ?_
        refine g_val (Nv .i64 k) ?_
        refine g_val (.bool false) ?_ (B.lss_int (a := k) (c := k) (b := false) (decide_eq_false hz) wr)
        refine g_nil ?_
        simp only [Act.put, List.setIfInBounds_toArray, List.set_cons_succ, List.set_cons_zero]
        by_cases hq : q < 1 ∨ 15 < q
        · have Hq := hide hq
          go_upto_region 10 with (fail)
          refine wp_region_list (WL.out ?_)
          refine g_val (.slice S k c) ?_
          refine g_val (.int .i64 q) ?_
          refine g_call hO 14 #[.slice S k c, .int .i64 q] (.tuple #[.slice none 0 0, Nv .i64 1]) (PLens_bad hq wr) ?_
          intro w2 hb34 hO
          refine g_val (.tuple #[.slice none 0 0, Nv .i64 1]) ?_
          refine g_val (.slice none 0 0) ?_
          refine g_val (Nv .i64 1) ?_
          refine g_val (.slice none 0 0) ?_
          refine g_val (Nv .i64 1) ?_
          refine g_nil ?_
          simp only [Act.put, List.setIfInBounds_toArray, List.set_cons_succ, List.set_cons_zero]
          by_cases h1 : q < 1
          · have h1' := h1
            go_upto_region 11 with (fail)
            refine wp_region_list (WL.out ?_)
            refine g_val (.int .i64 q) ?_
            refine g_val (.bool true) ?_ (lssI_int (a := q) (c := 1) (decide_eq_true h1) w2)
            refine g_val (.bool true) ?_
            refine g_skip ?_
            refine g_skip ?_
            refine g_val (.bool true) ?_
            refine g_val (.bool true) ?_
            refine g_skip ?_
            refine g_skip ?_
            refine g_skip ?_
            refine g_skip ?_
            refine g_skip ?_
            refine g_val (.bool true) ?_
            refine g_nil ?_
            simp only [Act.put, List.setIfInBounds_toArray, List.set_cons_succ, List.set_cons_zero]
            go_upto_region 12 with (fail)
            refine wp_region_list (WL.out ?_)
            refine g_val (.bool true) ?_
            refine g_val (.bool true) ?_
            refine g_val (Nv .i64 1) ?_
            refine g_val (.bool true) ?_
            refine g_val (.bool true) ?_
            refine g_val (.bool true) ?_
            refine g_val (.slice none 0 0) ?_
            refine g_val (Nv .i64 0) ?_
            refine g_val (.bool true) ?_ (B.eql_int (a := 0) (c := 0) (b := true) (rfl) w2)
            refine g_val (.bool true) ?_
            refine g_val (.bool true) ?_
            refine g_nil ?_
            simp only [Act.put, List.setIfInBounds_toArray, List.set_cons_succ, List.set_cons_zero]
            have HF := hide hO.low
            clear hO
            go_wp2_with (fail)
            go_ret
            exact ⟨rfl, HF.out⟩
          · have h2 : 15 < q := by omega
            go_upto_region 11 with (fail)
            refine wp_region_list (WL.out ?_)
            refine g_val (.int .i64 q) ?_
            refine g_val (.bool false) ?_ (lssI_int (a := q) (c := 1) (decide_eq_false h1) w2)
            refine g_val (.bool false) ?_
            refine g_val (.int .i64 q) ?_
            refine g_val (.bool true) ?_ (gtrI_int (a := q) (c := 15) (decide_eq_true h2) w2)
            refine g_val (.bool true) ?_
            refine g_val (.bool true) ?_
            refine g_skip ?_
            refine g_skip ?_
            refine g_skip ?_
            refine g_skip ?_
            refine g_skip ?_
            refine g_val (.bool true) ?_
            refine g_nil ?_
            simp only [Act.put, List.setIfInBounds_toArray, List.set_cons_succ, List.set_cons_zero]
            go_upto_region 12 with (fail)
            refine wp_region_list (WL.out ?_)
            refine g_val (.bool true) ?_
            refine g_val (.bool true) ?_
            refine g_val (Nv .i64 1) ?_
            refine g_val (.bool true) ?_
            refine g_val (.bool true) ?_
            refine g_val (.bool true) ?_
            refine g_val (.slice none 0 0) ?_
            refine g_val (Nv .i64 0) ?_
            refine g_val (.bool true) ?_ (B.eql_int (a := 0) (c := 0) (b := true) (rfl) w2)
            refine g_val (.bool true) ?_
            refine g_val (.bool true) ?_
            refine g_nil ?_
            simp only [Act.put, List.setIfInBounds_toArray, List.set_cons_succ, List.set_cons_zero]
            have HF := hide hO.low
            clear hO
            go_wp2_with (fail)
            go_ret
            exact ⟨rfl, HF.out⟩
        · obtain ⟨L, rfl⟩ : ∃ L : Nat, q = (L : Int) := ⟨q.toNat, by omega⟩
          have hL1 : 1 ≤ L := by omega
          have hL : L ≤ 15 := by omega
          clear hq
          have hmk := many_le (l := cn) (n := k)
          obtain ⟨P2, hP2⟩ : ∃ P2, 2 ^ L = P2 := ⟨_, rfl⟩
          have hP15 : P2 ≤ 32768 := by rw [← hP2]; exact Nat.pow_le_pow_right (by decide) hL
          obtain ⟨m, hm⟩ : ∃ m, many cn k = m := ⟨_, rfl⟩
          rw [hm] at hmk ⊢
          have Hm := hide hm
          have HP := hide hP2
          clear hm hP2
          by_cases hfit : m ≤ P2
          · have Hfit : Hid (many cn k ≤ 2 ^ L) := hide (by rw [Hm.out, HP.out]; exact hfit)
            go_upto_region 10 with (fail)
            refine wp_region_list (WL.out ?_)
            refine g_val (.slice S k c) ?_
            refine g_val (Nv .i64 L) ?_
            refine g_any 14 #[.slice S k c, Nv .i64 L] (PLens_y hcn (by omega) hL1 hL Hfit.out wr (hS.low hO.low)) ?_
            rintro _ w2 ⟨q1, rfl, hO2⟩
            have hO9 := own_join hO hO2
            clear hO hO2
            have hO := hO9
            clear hO9
            replace hO : Own w w2 [(q1, ints k (zt cn k L), 3)] := hO
            refine g_val (.tuple #[.slice (some (⟨q1, 0, none⟩ : Addr)) k k, Nv .i64 0]) ?_
            refine g_val (.slice (some (⟨q1, 0, none⟩ : Addr)) k k) ?_
            refine g_val (Nv .i64 0) ?_
            refine g_val (.slice (some (⟨q1, 0, none⟩ : Addr)) k k) ?_
            refine g_val (Nv .i64 0) ?_
            refine g_nil ?_
            simp only [Act.put, List.setIfInBounds_toArray, List.set_cons_succ, List.set_cons_zero]
            have Hz : Hid (∀ i, i < k → 0 ≤ (zt cn k L) i ∧ (zt cn k L) i ≤ 15) := hide (fun i hi => by have h9 := okC_tl hL1 hL Hfit.out i hi; omega)
            go_upto_region 11 with (fail)
            refine wp_region_list (WL.out ?_)
            refine g_val (Nv .i64 L) ?_
            refine g_val (.bool false) ?_ (B.lss_int (a := L) (c := 1) (b := false) (decide_eq_false (by omega)) w2)
            refine g_val (.bool false) ?_
            refine g_val (Nv .i64 L) ?_
            refine g_val (.bool false) ?_ (B.gtr_int (a := L) (c := 15) (b := false) (decide_eq_false (by omega)) w2)
            refine g_val (.bool false) ?_
            refine g_val (.bool false) ?_
            refine g_val (Nv .i64 m) ?_
            refine g_val (Nv .i64 L) ?_
            refine g_val (Nv .u64 L) ?_ (B.c_int_uint (a := L) (d := L) rfl (by omega) w2)
            refine g_val (Nv .i64 P2) ?_ (shl_iu (a := 1) (s := L) (by rw [Nat.one_mul]; exact HP.out) (by omega) (by omega) w2)
            refine g_val (.bool false) ?_ (B.gtr_int (a := m) (c := P2) (b := false) (decide_eq_false (by omega)) w2)
            refine g_val (.bool false) ?_
            refine g_nil ?_
            simp only [Act.put, List.setIfInBounds_toArray, List.set_cons_succ, List.set_cons_zero]
            go_upto_region 13 with (fail)
            refine wp_region_list (WL.out ?_)
            refine g_val (Nv .i64 0) ?_
            refine g_val (.bool false) ?_
            refine g_val (.bool false) ?_
            refine g_val (.slice (some (⟨q1, 0, none⟩ : Addr)) k k) ?_
            refine g_val (Nv .i64 k) ?_
            refine g_val (.slice S k c) ?_
            refine g_val (Nv .i64 k) ?_
            refine g_val (.bool false) ?_ (B.neq_int (a := k) (c := k) (b := false) (decide_eq_false (fun h => h rfl)) w2)
            refine g_val (.bool false) ?_
            refine g_nil ?_
            simp only [Act.put, List.setIfInBounds_toArray, List.set_cons_succ, List.set_cons_zero]
            go_upto_region 15 with (fail)
            refine wp_region_list (WL.out ?_)
            refine g_val (.slice S k c) ?_
            refine g_val (.slice (some (⟨q1, 0, none⟩ : Addr)) k k) ?_
            refine g_val (Nv .i64 L) ?_
            refine g_call hO 15 #[.slice S k c, .slice (some (⟨q1, 0, none⟩ : Addr)) k k, Nv .i64 L] (.tuple #[Nv .u64 (cst cn (zt cn k L) k), .bool true]) (CostT_c (by omega) hL1 hL Hfit.out hcn w2 (hS.low hO.low) (rc_int (hO.row 0 rfl))) ?_
            intro w3 hb73 hO
            refine g_val (.tuple #[Nv .u64 (cst cn (zt cn k L) k), .bool true]) ?_
            refine g_val (Nv .u64 (cst cn (zt cn k L) k)) ?_
            refine g_val (.bool true) ?_
            refine g_val (Nv .u64 (cst cn (zt cn k L) k)) ?_
            refine g_val (.bool true) ?_
            refine g_nil ?_
            simp only [Act.put, List.setIfInBounds_toArray, List.set_cons_succ, List.set_cons_zero]
            go_upto_region 16 with (fail)
            refine wp_region_list (WL.out ?_)
            refine g_val (.bool true) ?_
            refine g_val (.bool false) ?_
            refine g_nil ?_
            simp only [Act.put, List.setIfInBounds_toArray, List.set_cons_succ, List.set_cons_zero]
            by_cases h0 : m = 0
            · have hc0 : cst cn (zt cn k L) k = 0 := cst_none (by rw [Hm.out]; exact h0)
              rw [hc0]
              go_upto_region 18 with (fail)
              refine wp_region_list (WL.out ?_)
              refine g_val (Nv .i64 m) ?_
              refine g_val (.bool true) ?_ (B.eql_int (a := m) (c := 0) (b := true) (decide_eq_true h0) w3)
              refine g_nil ?_
              simp only [Act.put, List.setIfInBounds_toArray, List.set_cons_succ, List.set_cons_zero]
              go_upto_region 19 with (fail)
              refine wp_region_list (WL.out ?_)
              refine g_val (.bool true) ?_
              refine g_val (.bool true) ?_
              refine g_val (Nv .u64 0) ?_
              refine g_val (.bool true) ?_
              refine g_val (.bool true) ?_
              refine g_val (.bool true) ?_
              refine g_nil ?_
              simp only [Act.put, List.setIfInBounds_toArray, List.set_cons_succ, List.set_cons_zero]
              have HF := hide hO.low
              clear hO
              go_wp2_with (fail)
              go_ret
              exact ⟨rfl, HF.out⟩
            · have h0' := h0
              go_upto_region 18 with (fail)
              refine wp_region_list (WL.out ?_)
              refine g_val (Nv .i64 m) ?_
              refine g_val (.bool false) ?_ (B.eql_int (a := m) (c := 0) (b := false) (decide_eq_false h0) w3)
              refine g_nil ?_
              simp only [Act.put, List.setIfInBounds_toArray, List.set_cons_succ, List.set_cons_zero]
              go_upto_region 20 with (fail)
              refine wp_region_list (WL.out ?_)
              refine g_val (.slice (some (⟨q1, 0, none⟩ : Addr)) k k) ?_
              refine g_call hO 16 #[.slice (some (⟨q1, 0, none⟩ : Addr)) k k] (Nv .i64 (room (ln (zt cn k L)) k)) (RoomT_c Hz.out (by omega) w3 (rc_int (hO.row 0 rfl))) ?_
              intro w4 hb86 hO
              refine g_val (Nv .i64 (room (ln (zt cn k L)) k)) ?_
              refine g_nil ?_
              simp only [Act.put, List.setIfInBounds_toArray, List.set_cons_succ, List.set_cons_zero]
              have hrm := one_half (okW_tl (cn := cn) (n := k) (L := L) (by omega) hL1 hL Hfit.out (by rw [Hm.out]; exact h0))
              rw [many_tl hL1 hL Hfit.out, Hm.out] at hrm
              by_cases h1 : m = 1
              · have hr : room (ln (zt cn k L)) k = 16384 := hrm.1.1 h1
                rw [hr]
                go_upto_region 21 with (fail)
                refine wp_region_list (WL.out ?_)
                refine g_val (Nv .i64 m) ?_
                refine g_val (.bool true) ?_ (B.eql_int (a := m) (c := 1) (b := true) (decide_eq_true h1) w4)
                refine g_nil ?_
                simp only [Act.put, List.setIfInBounds_toArray, List.set_cons_succ, List.set_cons_zero]
                go_upto_region 22 with (fail)
                refine wp_region_list (WL.out ?_)
                refine g_val (.bool true) ?_
                refine g_val (.bool true) ?_
                refine g_val (Nv .i64 16384) ?_
                refine g_val (.bool true) ?_ (B.eql_int (a := 16384) (c := 16384) (b := true) (rfl) w4)
                refine g_val (.bool true) ?_
                refine g_val (.bool true) ?_
                refine g_nil ?_
                simp only [Act.put, List.setIfInBounds_toArray, List.set_cons_succ, List.set_cons_zero]
                have HF := hide hO.low
                clear hO
                go_wp2_with (fail)
                go_ret
                exact ⟨rfl, HF.out⟩
              · have hr : room (ln (zt cn k L)) k = 32768 := hrm.2 h1
                rw [hr]
                go_upto_region 21 with (fail)
                refine wp_region_list (WL.out ?_)
                refine g_val (Nv .i64 m) ?_
                refine g_val (.bool false) ?_ (B.eql_int (a := m) (c := 1) (b := false) (decide_eq_false h1) w4)
                refine g_nil ?_
                simp only [Act.put, List.setIfInBounds_toArray, List.set_cons_succ, List.set_cons_zero]
                go_upto_region 23 with (fail)
                refine wp_region_list (WL.out ?_)
                refine g_val (.bool true) ?_
                refine g_val (.bool true) ?_
                refine g_val (Nv .i64 32768) ?_
                refine g_val (.bool true) ?_ (B.eql_int (a := 32768) (c := 32768) (b := true) (rfl) w4)
                refine g_val (.bool true) ?_
                refine g_val (.bool true) ?_
                refine g_val (Nv .u64 (cst cn (zt cn k L) k)) ?_
                refine g_val (.slice S k c) ?_
                refine g_val (Nv .i64 L) ?_
                refine g_any 17 #[.slice S k c, Nv .i64 L] (Least_c hn hL1 hL hcn w4 (hS.low hO.low)) ?_
                rintro _ w5 ⟨hb5, s9, hu9, hp9, rfl⟩
                have hO9 := hO.call hb5
                clear hO
                have hO := hO9
                clear hO9
                refine g_val (.bool true) ?_ (B.eql_u64 (a := cst cn (zt cn k L) k) (c := wLeast s9 L) (b := true) (decide_eq_true (cst_wl hL1 hL Hfit.out (by rw [Hm.out]; omega) hu9 hp9)) w5)
                refine g_val (.bool true) ?_
                refine g_val (.bool true) ?_
                refine g_nil ?_
                simp only [Act.put, List.setIfInBounds_toArray, List.set_cons_succ, List.set_cons_zero]
                clear hb5
                have HF := hide hO.low
                clear hO
                go_wp2_with (fail)
                go_ret
                exact ⟨rfl, HF.out⟩
          · have Hfit : Hid (¬ many cn k ≤ 2 ^ L) := hide (by rw [Hm.out, HP.out]; exact hfit)
            go_upto_region 10 with (fail)
            refine wp_region_list (WL.out ?_)
            refine g_val (.slice S k c) ?_
            refine g_val (Nv .i64 L) ?_
            refine g_call hO 14 #[.slice S k c, Nv .i64 L] (.tuple #[.slice none 0 0, Nv .i64 1]) (PLens_n hcn (by omega) hL1 hL Hfit.out wr (hS.low hO.low)) ?_
            intro w2 hb34 hO
            refine g_val (.tuple #[.slice none 0 0, Nv .i64 1]) ?_
            refine g_val (.slice none 0 0) ?_
            refine g_val (Nv .i64 1) ?_
            refine g_val (.slice none 0 0) ?_
            refine g_val (Nv .i64 1) ?_
            refine g_nil ?_
            simp only [Act.put, List.setIfInBounds_toArray, List.set_cons_succ, List.set_cons_zero]
            go_upto_region 11 with (fail)
            refine wp_region_list (WL.out ?_)
            refine g_val (Nv .i64 L) ?_
            refine g_val (.bool false) ?_ (B.lss_int (a := L) (c := 1) (b := false) (decide_eq_false (by omega)) w2)
            refine g_val (.bool false) ?_
            refine g_val (Nv .i64 L) ?_
            refine g_val (.bool false) ?_ (B.gtr_int (a := L) (c := 15) (b := false) (decide_eq_false (by omega)) w2)
            refine g_val (.bool false) ?_
            refine g_val (.bool false) ?_
            refine g_val (Nv .i64 m) ?_
            refine g_val (Nv .i64 L) ?_
            refine g_val (Nv .u64 L) ?_ (B.c_int_uint (a := L) (d := L) rfl (by omega) w2)
            refine g_val (Nv .i64 P2) ?_ (shl_iu (a := 1) (s := L) (by rw [Nat.one_mul]; exact HP.out) (by omega) (by omega) w2)
            refine g_val (.bool true) ?_ (B.gtr_int (a := m) (c := P2) (b := true) (decide_eq_true (by omega)) w2)
            refine g_val (.bool true) ?_
            refine g_nil ?_
            simp only [Act.put, List.setIfInBounds_toArray, List.set_cons_succ, List.set_cons_zero]
            go_upto_region 12 with (fail)
            refine wp_region_list (WL.out ?_)
            refine g_val (.bool true) ?_
            refine g_val (.bool true) ?_
            refine g_val (Nv .i64 1) ?_
            refine g_val (.bool true) ?_
            refine g_val (.bool true) ?_
            refine g_val (.bool true) ?_
            refine g_val (.slice none 0 0) ?_
            refine g_val (Nv .i64 0) ?_
            refine g_val (.bool true) ?_ (B.eql_int (a := 0) (c := 0) (b := true) (rfl) w2)
            refine g_val (.bool true) ?_
            refine g_val (.bool true) ?_
            refine g_nil ?_
            simp only [Act.put, List.setIfInBounds_toArray, List.set_cons_succ, List.set_cons_zero]
            have HF := hide hO.low
            clear hO
            go_wp2_with (fail)
            go_ret
            exact ⟨rfl, HF.out⟩
end Q
end
end Go.Proofs.Ytkljpidlfddgbaa

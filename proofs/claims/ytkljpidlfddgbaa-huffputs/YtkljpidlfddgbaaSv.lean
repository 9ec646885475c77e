/- chains of huff. At most 1000 counts of 32 bits, at most 15 chains. -/
import Derived.Test.YtkljpidlfddgbaaSu
namespace Go.Proofs.Ytkljpidlfddgbaa
set_option maxRecDepth 100000
open Go.RowKit Rg B

namespace Q
open H
theorem agg_sit (w : World) : (isAgg 76).run Try.prog w = .ok false w := by kernel_rfl
theorem sz_sit (w : World) : (sizeOf 76).run Try.prog w = .ok 1 w := by kernel_rfl
abbrev zvS : Value := .slice none 0 0
theorem el_s : El 75 76 1 zvS := ⟨Try.underlying75, by kernel_rfl, by kernel_rfl, rfl, by decide, rfl, by simp [Value.cells]; rfl⟩
theorem fit_sit {c : Array Value} (h : c.all (·.oneCell') = true) : Fit 76 c := ⟨(fun h => by cases h), h⟩
theorem pS_at {c : Nat → Nat} {n k : Nat} (h : k < many c n) (h' : k < (pS c (rsg c n)).length) : (pS c (rsg c n))[k].1 = c (og c n k) ∧ (pS c (rsg c n))[k].2.1 = true := by
  rw [og_get h]
  simp [pS, p1]
/-- Chains: where they lie, what they hold. -/
def ChAt (c : Nat → Nat) (p : List Nat) (k : Nat) (v : Nat → Value) (M : List Row) : Prop := ∀ j, j < k → ∃ q cc, v j = .slice (some ⟨q, 0, none⟩) (cl2 c p (j + 1)).length cc ∧ (cl2 c p (j + 1)).length ≤ cc ∧ (q, cl (zc 2 zvI) (cc * 2) ((cl2 c p (j + 1)).length * 2) (ic (cl2 c p (j + 1))), 79) ∈ M
theorem rc_own {u w : World} {M : List Row} {q cc m : Nat} {l : List Pl} (hO : Own u w M) (hm : m ≤ cc) (h : (q, cl (zc 2 zvI) (cc * 2) (m * 2) (ic l), 79) ∈ M) : Rc w (some ⟨q, 0, none⟩) (m * 2) (ic l) := rc_cl (hO.blk _ h) (Nat.mul_le_mul_right 2 hm)
theorem ch_next {c : Nat → Nat} {p : List Nat} {k q cc : Nat} {v : Nat → Value} {M : List Row} {x : Value} (h : ChAt c p k v M) (hx : x = .slice (some ⟨q, 0, none⟩) (cl2 c p (k + 1)).length cc) (hc : (cl2 c p (k + 1)).length ≤ cc) : ChAt c p (k + 1) (fun j => if j = k then x else v j) (M ++ [(q, cl (zc 2 zvI) (cc * 2) ((cl2 c p (k + 1)).length * 2) (ic (cl2 c p (k + 1))), 79)]) := fun j hj => by
  by_cases hjk : j = k
  · subst hjk
    exact ⟨q, cc, (if_pos rfl).trans hx, hc, List.mem_append_right _ (List.mem_singleton.2 rfl)⟩
  · obtain ⟨q', cc', h1, h2, h3⟩ := h j (by omega)
    exact ⟨q', cc', (if_neg hjk).trans h1, h2, List.mem_append_left _ h3⟩
theorem ch_one {c : Nat → Nat} {p : List Nat} {k : Nat} {v : Nat → Value} {M : List Row} (h : ChAt c p k v M) {i : Nat} (hi : i < k) : (v i).oneCell' = true := by
  obtain ⟨q, cc, e, _⟩ := h i hi
  rw [e]; rfl
theorem ch_one' {c : Nat → Nat} {p : List Nat} {k : Nat} {v : Nat → Value} {M : List Row} (h : ChAt c p k v M) {q : Option Addr} {m cc i : Nat} (hi : i < (k + 1) * 1) : ((fun i => if i = k then Value.slice q m cc else v i) i).oneCell' = true := by
  show (if i = k then Value.slice q m cc else v i).oneCell' = true
  by_cases e : i = k
  · rw [if_pos e]; rfl
  · rw [if_neg e]; exact ch_one h (by omega)
theorem ch_old {k i : Nat} {v : Nat → Value} {x : Value} (hi : i < k * 1) : v i = (fun i => if i = k then x else v i) i := (if_neg (by omega)).symm
theorem ch_new {k i : Nat} {v : Nat → Value} {x : Value} (hi : i < 1) : (#[x] : Array Value)[i]? = some ((fun i => if i = k then x else v i) (k * 1 + i)) := by
  obtain rfl : i = 0 := by omega
  show some x = some (if k * 1 + 0 = k then x else v (k * 1 + 0))
  rw [if_pos (by omega)]
set_option maxHeartbeats 8000000 in
theorem Chains_c {S R : Option Addr} {n c m rc L : Nat} {cn : Nat → Nat} (hcn : ∀ i, cn i < 4294967296) (hn : n ≤ 1000) (hm : many cn n = m) (hL1 : 1 ≤ L) (hL : L ≤ 15) (w : World) (hS : Rc w S n (H.nw cn)) (hR : Rc w R m (H.ni (og cn n))) :
    RetP 34 #[.slice S n c, .slice R m rc, Nv .i64 L] w fun x w' => ∃ g d v M, x = .slice (some ⟨g, 0, none⟩) L (L + d) ∧ Own w w' (M ++ [(g, cl (zc 1 zvS) ((L + d) * 1) (L * 1) v, 76)]) ∧ ChAt cn (rsg cn n) L v M := by
  have hm1000 : m ≤ 1000 := by rw [← hm]; exact Nat.le_trans many_le hn
  obtain ⟨p, hp⟩ : ∃ p, rsg cn n = p := ⟨_, rfl⟩
  have hlen : p.length = m := by rw [← hp, rsg_len, hm]
  have Hp := hide hp
  have Hm := hide hm
  have h1c : cl2 cn p 1 = pS cn p := mg_nil' _
  rw [hp]
  clear hp hm
  go_enter Try.func34, Try.ntmps34
  have hO := Own.start w
  go_upto_region 0 with (fail)
  refine wp_region_list (WL.out ?_)
  refine g_val (.slice none 0 0) ?_
  refine g_nil ?_
  simp only [Act.put, List.setIfInBounds_toArray, List.set_cons_succ, List.set_cons_zero]
  go_upto_region 1 with (fail)
  refine wp_region_list (WL.out ?_)
  refine g_val (.slice R m rc) ?_
  refine g_val (Nv .i64 m) ?_
  refine g_new hO (fun q => .slice (some ⟨q, 0, none⟩) m m) (cl (zc 2 zvI) (m * 2) (0 * 2) (ic (pS cn p))) 79 (fit_ic _ _ _) ((by rw [Nat.zero_mul]; exact b_mkN 76 79 2 16 zvI (ic (pS cn p)) Try.underlying76 it_info rfl (by decide) (Nat.le_refl _) (by omega) (by omega) w)) ?_
  intro n14 w1 hb14 hO
  replace hO : Own w w1 [(n14, cl (zc 2 zvI) (m * 2) (0 * 2) (ic (pS cn p)), 79)] := hO
  refine g_val (.slice (some ⟨n14, 0, none⟩) m m) ?_
  refine g_nil ?_
  simp only [Act.put, List.setIfInBounds_toArray, List.set_cons_succ, List.set_cons_zero]
  go_upto_region 2 with (fail)
  refine wp_region_list (WL.out ?_)
  refine g_val (.slice R m rc) ?_
  refine g_val (Nv .i64 m) ?_
  refine g_val (Nv .i64 0) ?_
  refine g_nil ?_
  simp only [Act.put, List.setIfInBounds_toArray, List.set_cons_succ, List.set_cons_zero]
  have Hk0 := hide hlen
  have HO := hide hO
  clear hO
  go_wp2_with (fail)
  go_loopw [17] (fun x17 wr => ∃ k : Nat, k ≤ m ∧ x17 = .int .i64 (k : Int) ∧ Own w wr [(n14, cl (zc 2 zvI) (m * 2) (k * 2) (ic (pS cn p)), 79)]) (fun x17 _ => m - (intOf x17).toNat)
  case atStart => exact ⟨0, Nat.zero_le _, rfl, HO.out⟩
  case round =>
    clear HO
    obtain ⟨k, hk9, rfl, hO⟩ := hrel
    by_cases hz : k < m
    · have hk0 : 0 ≤ k := Nat.zero_le _
      go_upto_region 3 with (fail)
      refine wp_region_list (WL.out ?_)
      refine g_val (.bool true) ?_ (B.lss_int (a := k) (c := m) (b := true) (decide_eq_true hz) wr)
      refine g_nil ?_
      simp only [Act.put, List.setIfInBounds_toArray, List.set_cons_succ, List.set_cons_zero]
      have hkm : k < many cn n := by rw [Hm.out]; exact hz
      have hxn := (og_mem hkm).1
      have hx32 := hcn (og cn n k)
      have hkp : k < (pS cn p).length := by rw [pS_len, hlen]; exact hz
      have hpat : (pS cn p)[k].1 = cn (og cn n k) ∧ (pS cn p)[k].2.1 = true := by have h9 := pS_at hkm (by rw [Hp.out]; exact hkp); simpa only [Hp.out] using h9
      obtain ⟨a, rfl, hcA⟩ := hR.cell (i := k) hz
      obtain ⟨b, rfl, hcB⟩ := hS.cell hxn
      have hcA9 : ∀ w', Below w.heap.size w w' → w'.cell? (a.add k) = some (Nv .i64 (og cn n k)) := hcA
      have hcB9 : ∀ w', Below w.heap.size w w' → w'.cell? (b.add (og cn n k)) = some (Nv .u32 (cn (og cn n k))) := hcB
      have Hset : Hid (setL (cl (zc 2 zvI) (m * 2) (k * 2) (ic (pS cn p))) (k * 2) (#[Value.int .u64 ((cn (og cn n k) : Nat) : Int), .bool true] : Array Value).toList = cl (zc 2 zvI) (m * 2) ((k + 1) * 2) (ic (pS cn p))) := hide (by
        have h9 := ic_set (N := m) (l := pS cn p) hz hkp
        rwa [hpat.1, hpat.2] at h9)
      clear hcA hcB hpat
      obtain ⟨x, hx⟩ : ∃ x, og cn n k = x := ⟨_, rfl⟩
      rw [hx] at hxn hx32 hcA9 hcB9 Hset
      clear hx
      obtain ⟨y, hy⟩ : ∃ y, cn x = y := ⟨_, rfl⟩
      rw [hy] at hx32 hcB9 Hset
      clear hy
      go_upto_region 4 with (fail)
      refine wp_region_list (WL.out ?_)
      refine g_val (Nv .i64 k) ?_
      refine g_val (.pointer (some (a.add k))) ?_ (b_ixs (n := m) (c := rc) hz Try.underlying25 sz_int wr)
      refine g_la (Nv .i64 x) (hcA9 wr hO.low) agg_int ?_
      refine g_val (Nv .i64 k) ?_
      refine g_val (Nv .i64 x) ?_
      refine g_nil ?_
      simp only [Act.put, List.setIfInBounds_toArray, List.set_cons_succ, List.set_cons_zero]
      go_upto_region 5 with (fail)
      refine wp_region_list (WL.out ?_)
      refine g_val (.slice (some ⟨n14, 0, none⟩) m m) ?_
      refine g_val (Nv .i64 k) ?_
      refine g_val (.slice (some b) n c) ?_
      refine g_val (Nv .i64 x) ?_
      refine g_val (.pointer (some (b.add x))) ?_ (b_ixs (n := n) (c := c) hxn Try.underlying23 sz_u32 wr)
      refine g_la (Nv .u32 y) (hcB9 wr hO.low) agg_u32 ?_
      refine g_val (Nv .u64 y) ?_ (B.c_u32_u64 (a := y) (d := y) rfl (by omega) wr)
      refine g_val (A (#[.int .u64 ((y : Nat) : Int), .bool true])) ?_ (run_bd 79 _ rfl [(0, Nv .u64 y), (1, .bool true)] (by kernel_rfl) _ (by kernel_rfl) wr)
      refine g_val (E n14 (k * 2)) ?_ (b_ixr (n := m) (c := m) hz Try.underlying76 sz_it wr)
      refine g_sm (e := #[.int .u64 ((y : Nat) : Int), .bool true]) hO 0 rfl (by show k * 2 + 2 ≤ (cl (zc 2 zvI) (m * 2) (k * 2) (ic (pS cn p))).size; rw [cl_size]; omega) (by kernel_rfl) (by simp [Value.oneCell']) Hset.out (fit_ic _ _ _) ?_
      intro w2 hO
      replace hO : Own w w2 [(n14, cl (zc 2 zvI) (m * 2) ((k + 1) * 2) (ic (pS cn p)), 79)] := hO
      refine g_nil ?_
      simp only [Act.put, List.setIfInBounds_toArray, List.set_cons_succ, List.set_cons_zero]
      have HO := hide hO
      clear hO
      go_upto_region 6 with (fail)
      refine wp_region_list (WL.out ?_)
      refine g_val (Nv .i64 (k + 1)) ?_ (B.add_int (a := k) (c := 1) (d := k + 1) rfl (by omega) w2)
      refine g_val (Nv .i64 (k + 1)) ?_
      refine g_nil ?_
      simp only [Act.put, List.setIfInBounds_toArray, List.set_cons_succ, List.set_cons_zero]
      go_wp2_with (fail)
      go_roundw
      case rel => exact ⟨k + 1, hz, rfl, HO.out⟩
      case measure => show m - ((k + 1 : Nat) : Int).toNat < m - ((k : Nat) : Int).toNat; omega
    · obtain rfl : k = m := by omega
      clear hk9
      go_upto_region 3 with (fail)
      refine wp_region_list (WL.out ?_)
      refine g_val (.bool false) ?_ (B.lss_int (a := k) (c := k) (b := false) (decide_eq_false hz) wr)
      refine g_nil ?_
      simp only [Act.put, List.setIfInBounds_toArray, List.set_cons_succ, List.set_cons_zero]
      go_upto_region 7 with (fail)
      refine wp_region_list (WL.out ?_)
      refine g_val (.func (.func 48) #[] #[]) ?_
      refine g_nil ?_
      simp only [Act.put, List.setIfInBounds_toArray, List.set_cons_succ, List.set_cons_zero]
      go_upto_region 8 with (fail)
      refine wp_region_list (WL.out ?_)
      refine g_val (.slice (some ⟨n14, 0, none⟩) k k) ?_
      refine g_new hO (fun q => .slice (some ⟨q, 0, none⟩) 1 1) (#[.slice (some ⟨n14, 0, none⟩) k k]) 76 (fit_sit (by simp [Value.oneCell'])) ((by kernel_rfl)) ?_
      intro n33 w2 hb33 hO
      replace hO : Own w w2 [(n14, cl (zc 2 zvI) (k * 2) (k * 2) (ic (pS cn p)), 79), (n33, #[.slice (some ⟨n14, 0, none⟩) k k], 76)] := hO
      refine g_val (.slice (some ⟨n33, 0, none⟩) 1 1) ?_
      refine g_nil ?_
      simp only [Act.put, List.setIfInBounds_toArray, List.set_cons_succ, List.set_cons_zero]
      have hlk : (cl2 cn p 1).length = k := by rw [h1c, pS_len, hlen]
      have HA : Hid (Own w w2 ([(n14, cl (zc 2 zvI) (k * 2) (k * 2) (ic (pS cn p)), 79)] ++ [(n33, cl (zc 1 zvS) ((1 + 0) * 1) (1 * 1) (fun _ => .slice (some ⟨n14, 0, none⟩) k k), 76)])) := hide hO
      have HC : Hid (ChAt cn p 1 (fun _ => .slice (some ⟨n14, 0, none⟩) k k) [(n14, cl (zc 2 zvI) (k * 2) (k * 2) (ic (pS cn p)), 79)]) := hide (fun j hj => by
        obtain rfl : j = 0 := by omega
        exact ⟨n14, k, by rw [hlk], by rw [hlk]; exact Nat.le_refl _, by rw [hlk, h1c]; exact List.mem_singleton.2 rfl⟩)
      clear hO
      go_wp2_with (fail)
      go_loopw [11] (fun x11 wr => ∃ (j g dd : Nat) (v : Nat → Value) (M : List Row), 1 ≤ j ∧ j ≤ L ∧ x11 = .slice (some ⟨g, 0, none⟩) j (j + dd) ∧ Own w wr (M ++ [(g, cl (zc 1 zvS) ((j + dd) * 1) (j * 1) v, 76)]) ∧ ChAt cn p j v M ∧ (n14, cl (zc 2 zvI) (k * 2) (k * 2) (ic (pS cn p)), 79) ∈ M) (fun x11 _ => L - H.sln x11)
      case atStart => exact ⟨1, n33, 0, _, _, Nat.le_refl _, hL1, rfl, HA.out, HC.out, List.mem_singleton.2 rfl⟩
      case round =>
    clear HA HC
    obtain ⟨j, g, dd, v, M, hj1, hjL, rfl, hO, hC, hM⟩ := hrel
    have HC := hide hC
    have HM := hide hM
    clear hC hM
    by_cases hz : j < L
    · have hz' := hz
      go_upto_region 9 with (fail)
      refine wp_region_list (WL.out ?_)
      refine g_val (.slice (some ⟨g, 0, none⟩) j (j + dd)) ?_
      refine g_val (Nv .i64 j) ?_
      refine g_val (Nv .i64 L) ?_
      refine g_val (.bool true) ?_ (B.lss_int (a := j) (c := L) (b := true) (decide_eq_true hz) wr)
      refine g_nil ?_
      simp only [Act.put, List.setIfInBounds_toArray, List.set_cons_succ, List.set_cons_zero]
      obtain ⟨qa, ca, hva, hca, hma⟩ := HC.out (j - 1) (by omega)
      rw [show j - 1 + 1 = j by omega] at hva hca hma
      obtain ⟨C, hCe⟩ : ∃ C, cl2 cn p j = C := ⟨_, rfl⟩
      obtain ⟨na, hna⟩ : ∃ na, C.length = na := ⟨_, rfl⟩
      have hlen2 : na ≤ 2 * k := by rw [← hna, ← hCe, ← hlen]; exact cl2_len cn p j
      have hkey : ∀ x ∈ C, x.1 < 2 ^ 62 := fun x hx => by
        have h1 := cl2_key (p := p) hcn j x (by rw [hCe]; exact hx)
        have h2 : (2 : Nat) ^ j ≤ 2 ^ 15 := Nat.pow_le_pow_right (by decide) (by omega)
        exact Nat.lt_of_lt_of_le h1 (Nat.le_trans (Nat.mul_le_mul_left _ h2) (by decide))
      have hstep := cl2_step cn p j
      rw [hCe, hna, hlen] at hstep
      have hmg : mg (·.1) (pS cn p) (pr pj C) = cl2 cn p (j + 1) := by rw [← hCe]; rfl
      rw [hCe, hna] at hva hca hma
      have Hva := hide hva
      have Hmg := hide hmg
      clear hva hmg
      have HRa := hide (rc_own hO hca (List.mem_append_left _ hma))
      have HRl := hide (rc_own hO (Nat.le_refl _) (List.mem_append_left _ HM.out))
      obtain ⟨h, hh⟩ : ∃ h, na / 2 = h := ⟨_, rfl⟩
      have hlpS : k = (pS cn p).length := by rw [pS_len, hlen]
      have hlpr : h = (pr pj C).length := by rw [pr_length, hna, hh]
      go_upto_region 10 with (fail)
      refine wp_region_list (WL.out ?_)
      refine g_val (.slice (some ⟨g, 0, none⟩) j (j + dd)) ?_
      refine g_val (.slice (some ⟨n14, 0, none⟩) k k) ?_
      refine g_val (.slice (some ⟨g, 0, none⟩) j (j + dd)) ?_
      refine g_val (.slice (some ⟨g, 0, none⟩) j (j + dd)) ?_
      refine g_val (Nv .i64 j) ?_
      refine g_val (Nv .i64 (j - 1)) ?_ (B.sub_int (a := j) (c := 1) (d := j - 1) (by omega) (by omega) wr)
      refine g_val (E g ((j - 1) * 1)) ?_ (b_ixr (n := j) (c := j + dd) (by omega) Try.underlying75 sz_sit wr)
      refine g_la (ad := ⟨g, (j - 1) * 1, none⟩) (.slice (some ⟨qa, 0, none⟩) na ca) ?_ agg_sit ?_
      · have h9 := (hO.blk _ (List.mem_append_right M (List.mem_singleton.2 rfl))).cell ((j - 1) * 1)
        rw [cl_at _ _ _ _ _ (by omega) (by omega), show v ((j - 1) * 1) = v (j - 1) by rw [Nat.mul_one], Hva.out] at h9
        exact h9
      refine g_any 50 #[.slice (some ⟨qa, 0, none⟩) na ca] (Pairs_c hna.symm (by omega) hkey wr HRa.out) ?_
      rintro _ w1 ⟨qb, rfl, hO2⟩
      rw [hh] at hO2 ⊢
      have hO3 := hO.call hO2.low
      clear hO
      have HRb := hide (rc_own hO2 (Nat.le_refl _) (List.mem_singleton.2 rfl))
      have HRl2 := hide (HRl.out.low hO2.low)
      clear hO2
      refine g_val (.func (.func 48) #[] #[]) ?_
      refine g_any 49 #[.slice (some ⟨n14, 0, none⟩) k k, .slice (some ⟨qb, 0, none⟩) h h, .func (.func 48) #[] #[]] (Join_c hlpS hlpr (Nat.le_refl _) (Nat.le_refl _) (by omega) w1 HRl2.out HRb.out) ?_
      rintro _ w2 ⟨qj, dj, rfl, hO4⟩
      rw [Hmg.out] at hO4
      have hO5 := own_join hO3 hO4
      clear hO3 hO4
      have hO : Own w w2 ((M ++ [(qj, cl (zc 2 zvI) ((k + h + dj) * 2) ((k + h) * 2) (ic (cl2 cn p (j + 1))), 79)]) ++ [(g, cl (zc 1 zvS) ((j + dd) * 1) (j * 1) v, 76)]) := hO5.perm (by rw [List.append_assoc, List.append_assoc]; exact List.Perm.append_left M (List.perm_append_comm (l₁ := [_]) (l₂ := [_])))
      clear hO5
      obtain ⟨M2, hM2⟩ : ∃ M2, M ++ [(qj, cl (zc 2 zvI) ((k + h + dj) * 2) ((k + h) * 2) (ic (cl2 cn p (j + 1))), 79)] = M2 := ⟨_, rfl⟩
      rw [hM2] at hO
      have HM2 := hide hM2
      clear hM2
      refine g_ap1 (.slice (some ⟨g, 0, none⟩) j (j + dd)) el_s #[.slice (some ⟨qj, 0, none⟩) (k + h) (k + h + dj)] (.inr ⟨_, _, rfl, hO⟩) (g := fun i => if i = j then .slice (some ⟨qj, 0, none⟩) (k + h) (k + h + dj) else v i) rfl (by omega) (fun i hi => ch_one' HC.out hi) (fun i hi => ch_old hi) (fun i hi => ch_new hi) (by kernel_rfl) (fun g2 r2 dd2 w3 hO => ?_)
      refine g_val (.slice (some ⟨g2, 0, none⟩) (j + 1) (j + 1 + dd2)) ?_
      refine g_nil ?_
      simp only [Act.put, List.setIfInBounds_toArray, List.set_cons_succ, List.set_cons_zero]
      have HO := hide hO
      clear hO
      go_wp2_with (fail)
      go_roundw
      case rel => exact ⟨j + 1, g2, dd2, _, M2, by omega, by omega, rfl, HO.out, by rw [← HM2.out]; have h9 := ch_next (q := qj) (cc := k + h + dj) (x := .slice (some ⟨qj, 0, none⟩) (k + h) (k + h + dj)) HC.out (by rw [hstep, hh]) (by rw [hstep, hh]; omega); rwa [hstep, hh] at h9, by rw [← HM2.out]; exact List.mem_append_left _ HM.out⟩
      case measure => show L - (j + 1) < L - j; omega
    · obtain rfl : j = L := by omega
      go_upto_region 9 with (fail)
      refine wp_region_list (WL.out ?_)
      refine g_val (.slice (some ⟨g, 0, none⟩) j (j + dd)) ?_
      refine g_val (Nv .i64 j) ?_
      refine g_val (Nv .i64 j) ?_
      refine g_val (.bool false) ?_ (B.lss_int (a := j) (c := j) (b := false) (decide_eq_false hz) wr)
      refine g_nil ?_
      simp only [Act.put, List.setIfInBounds_toArray, List.set_cons_succ, List.set_cons_zero]
      have HO := hide hO
      clear hO
      go_upto_region 11 with (fail)
      refine wp_region_list (WL.out ?_)
      refine g_val (.slice (some ⟨g, 0, none⟩) j (j + dd)) ?_
      refine g_val (.slice (some ⟨g, 0, none⟩) j (j + dd)) ?_
      refine g_nil ?_
      simp only [Act.put, List.setIfInBounds_toArray, List.set_cons_succ, List.set_cons_zero]
      go_wp2_with (fail)
      go_ret
      exact ⟨_, rfl, g, dd, v, M, rfl, HO.out, HC.out⟩
end Q
end Go.Proofs.Ytkljpidlfddgbaa

/- Bytes. A Writer of less than 2^40 bits; no other condition. -/
import Derived.Test.YtkljpidlfddgbaaCb
namespace Go.Proofs.Ytkljpidlfddgbaa
set_option maxRecDepth 100000
open Go.RowKit Rg B


namespace B
theorem b_loE {ρ : Operand → Value} {o : Oper} {x y : Operand} {A C0 : Option Addr} {len cap c d e : Nat} (hc : c ≤ len) (hd : len - c = d) (he : cap - c = e) (hA : cutA A c cap = C0) (w : World) (ho : o.op = .slice 44 x (some y) none none := by rfl) (hx : ρ x = .slice A len cap := by kernel_rfl) (hy : ρ y = Nv .i64 c := by kernel_rfl) : (execOp ρ o).run Try.prog w = .ok (.value (.slice C0 d e)) w := by
  subst hd he hA
  exact b_lo hc w ho hx hy
theorem cut_own (q c n : Nat) : ∃ d, cutA (some ⟨q, 0, none⟩) c n = some ⟨q, d, none⟩ ∧ ((n = c ∧ d = 0) ∨ (n ≠ c ∧ d = c)) := by
  unfold cutA
  by_cases h : n = c
  · exact ⟨0, by rw [if_pos h], .inl ⟨h, rfl⟩⟩
  · exact ⟨c, by rw [if_neg h, Option.map_some, Addr.add_mid, Nat.zero_add], .inr ⟨h, rfl⟩⟩
end B
namespace W
/-- The bytes from e on are there. -/
def bf (X e i : Nat) : Nat := if e ≤ i then byt X i else 0
theorem bf_zero (X : Nat) : bf X 0 = byt X := funext fun i => by unfold bf; rw [if_pos (Nat.zero_le _)]
theorem bf_last {X c n e d q : Nat} (hn : n = (c + 7) / 8) (he : e = c / 2048 * 256) (hd : (n = e ∧ d = 0) ∨ (n ≠ e ∧ d = e)) (hq : q = min 256 (n - e)) : vals .u8 n (laid (fun _ => 0) (op X c) d q) = vals .u8 n (bf X e) := vals_congr _ _ _ _ fun i hi => by
  unfold laid bf op
  rcases hd with ⟨h1, h2⟩ | ⟨h1, h2⟩
  · rw [if_neg (by omega), if_neg (by omega)]
  · subst h2
    by_cases h : d ≤ i
    · rw [if_pos ⟨h, by omega⟩, if_pos h]
      congr 1
      omega
    · rw [if_neg (by omega), if_neg h]
theorem bf_step {X e n k : Nat} (he : e = 256 * k) : vals .u8 n (laid (bf X (e + 256)) (fun j => byt X (256 * k + j)) e 256) = vals .u8 n (bf X e) := vals_congr _ _ _ _ fun i hi => by
  unfold laid bf
  by_cases h : e ≤ i
  · by_cases h2 : i < e + 256
    · rw [if_pos ⟨h, h2⟩, if_pos h]
      show byt X (256 * k + (i - e)) = _
      congr 1; omega
    · rw [if_neg (by omega), if_pos h, if_pos (by omega)]
  · rw [if_neg (by omega), if_neg h, if_neg (by omega)]
/-- The full pieces, where they lie. -/
def ChB (w : World) (X : Nat) : Nat → Option Addr → Prop
  | 0, p => p = none
  | q + 1, p => ∃ b p', p = some ⟨b, 0, none⟩ ∧ Blk w b (pc p' (fun k => byt X (256 * q + k))) 90 ∧ ChB w X q p'
theorem Chn.blk {w : World} {B : List Row} {X : Nat} (hB : ∀ r ∈ B, Blk w r.1 r.2.1 r.2.2) : ∀ {q : Nat} {p : Option Addr}, Chn B X q p → ChB w X q p
  | 0, _, h => h
  | _ + 1, _, ⟨b, p', e, hm, h⟩ => ⟨b, p', e, hB _ hm, h.blk hB⟩
set_option maxHeartbeats 4000000 in
theorem Bytes_c {X c n : Nat} {p : Option Addr} (hn : n = (c + 7) / 8) (hc : c < 2 ^ 40) (N : Nat) (w : World) (hB : Blk w N (wc p (op X c) c) 49) (hC : ChB w X (c / 2048) p) :
    Calls Try.prog 24 #[D N] w fun e w' => ∃ q, e = .returned (.slice (some ⟨q, 0, none⟩) n n) ∧ Own w w' [(q, vals .u8 n (byt X), 5)] := by
  obtain ⟨e, he⟩ : ∃ e, e = c / 2048 * 256 := ⟨_, rfl⟩
  have hen : e ≤ n := by omega
  have hn40 : n ≤ 2 ^ 40 := by omega
  have Hn := hide hn
  have He := hide he
  clear hn he
  go_enter Try.func24, Try.ntmps24
  have hO := Own.start w
  go_upto_region 0 with (fail)
  refine wp_region_list (WL.out ?_)
  refine g_val (.slice none 0 0) ?_
  refine g_nil ?_
  simp only [Act.put, List.setIfInBounds_toArray, List.set_cons_succ, List.set_cons_zero]
  go_upto_region 1 with (fail)
  refine wp_region_list (WL.out ?_)
  refine g_val (D N) ?_
  refine g_val (.bool false) ?_
  refine g_nil ?_
  simp only [Act.put, List.setIfInBounds_toArray, List.set_cons_succ, List.set_cons_zero]
  go_upto_region 3 with (fail)
  refine wp_region_list (WL.out ?_)
  refine g_val (D N) ?_
  refine g_val (D N) ?_
  refine g_val (E N 257) ?_
  refine g_la (Nv .i64 c) (((hB.call hO.low).cell 257).trans (wc_c _ _ _)) agg_int ?_
  refine g_val (Nv .i64 (c + 7)) ?_ (B.add_int (a := c) (c := 7) (d := c + 7) rfl (by omega) w)
  refine g_val (Nv .i64 n) ?_ (B.quo_int (a := c + 7) (c := 8) (d := n) Hn.out.symm (by omega) (by omega) w)
  refine g_new hO (fun q => .slice (some ⟨q, 0, none⟩) n n) (vals .u8 n (fun _ => 0)) 5 (fit_sl _ _) (b_mk hn40 w) ?_
  intro n14 w1 hb14 hO
  replace hO : Own w w1 [(n14, vals .u8 n (fun _ => 0), 5)] := hO
  refine g_val (.slice (some ⟨n14, 0, none⟩) n n) ?_
  refine g_nil ?_
  simp only [Act.put, List.setIfInBounds_toArray, List.set_cons_succ, List.set_cons_zero]
  go_upto_region 4 with (fail)
  refine wp_region_list (WL.out ?_)
  refine g_val (D N) ?_
  refine g_val (D N) ?_
  refine g_val (E N 257) ?_
  refine g_la (Nv .i64 c) (((hB.call hO.low).cell 257).trans (wc_c _ _ _)) agg_int ?_
  refine g_val (Nv .i64 (c / 2048)) ?_ (B.quo_int (a := c) (c := 2048) (d := c / 2048) rfl (by omega) (by omega) w1)
  refine g_val (Nv .i64 e) ?_ (B.mul_int (a := c / 2048) (c := 256) (d := e) He.out.symm (by have := He.out; omega) w1)
  refine g_val (Nv .i64 e) ?_
  refine g_nil ?_
  simp only [Act.put, List.setIfInBounds_toArray, List.set_cons_succ, List.set_cons_zero]
  obtain ⟨d, hd, hd2⟩ := cut_own n14 e n
  obtain ⟨q, hq⟩ : ∃ q, q = min 256 (n - e) := ⟨_, rfl⟩
  have hdq : d + q ≤ n := by omega
  go_upto_region 5 with (fail)
  refine Rg.pd [7] (fun _ => [(21, .slice (some ⟨n14, 0, none⟩) n n), (22, Nv .i64 e), (23, .slice (some ⟨n14, d, none⟩) (n - e) (n - e)), (24, D N), (25, D N), (26, E N 1), (27, .slice (some ⟨N, 1, none⟩) 256 256), (28, Nv .i64 q)]) (OI w (fun s ν => [[(n14, vals .u8 n (fun _ => 0), 5)], [(n14, vals .u8 n (laid (fun _ => 0) (op X c) d q), 5)]].getD s [])) (fun _ => 0) hO.drew (Rg.ac nv (Rg.ac nv (Rg.ac (nx (fun _ => .slice (some ⟨n14, d, none⟩) (n - e) (n - e)) (fun _ w => b_loE hen rfl rfl hd w)) (Rg.ac nv (Rg.ac nv (Rg.ac nv (Rg.ac nv (Rg.ac (scp 0 0 n14 n d (n - e) (n - e) 256 256 q (fun _ => 0) (op X c) (some ⟨N, 1, none⟩) hq hdq (fun ν w hO => rc_row (hB.call hO.low) fun i hi => wc_o _ _ _ hi)) Rg.an)))))))) ?_
  intro ν w2 hO
  replace hO : Own w w2 [(n14, vals .u8 n (laid (fun _ => 0) (op X c) d q), 5)] := hO
  simp only [Rg.putL, Act.put, List.setIfInBounds_toArray, List.set_cons_succ, List.set_cons_zero]
  clear ν
  rw [bf_last Hn.out He.out hd2 hq] at hO
  clear hd hd2 hq hdq
  go_upto_region 6 with (fail)
  refine wp_region_list (WL.out ?_)
  refine g_val (D N) ?_
  refine g_val (D N) ?_
  refine g_val (D N) ?_
  refine g_la (.pointer p) (((hB.call hO.low).cell 0).trans (wc_p _ _ _)) agg_pp ?_
  refine g_val (.pointer p) ?_
  refine g_nil ?_
  simp only [Act.put, List.setIfInBounds_toArray, List.set_cons_succ, List.set_cons_zero]
  have HO := hide hO
  clear hO
  go_wp2_with (fail)
  go_loopw [4, 5] (fun x4 x5 wr => ∃ (k e : Nat) (po : Option Addr), k ≤ c / 2048 ∧ e = 256 * k ∧ x4 = .int .i64 (e : Int) ∧ x5 = .pointer po ∧ ChB w X k po ∧ Own w wr [(n14, vals .u8 n (bf X e), 5)]) (fun x4 _ _ => (intOf x4).toNat)
  case atStart => exact ⟨c / 2048, e, p, Nat.le_refl _, by have := He.out; omega, rfl, rfl, hC, HO.out⟩
  case round =>
    clear HO hC He hen
    obtain ⟨k, e, po, hk, he, rfl, rfl, hC, hO⟩ := hrel
    cases k with
    | succ k =>
      obtain ⟨b, p', rfl, hP, hC'⟩ := hC
      have hkn : 256 * (k + 1) ≤ n := by have := Hn.out; omega
      obtain ⟨f, hf⟩ : ∃ f, f = e - 256 := ⟨_, rfl⟩
      have hf2 : f = 256 * k := by omega
      have hfe : e = f + 256 := by omega
      have hfn : f ≤ n := by omega
      have hcut : cutA (some ⟨n14, 0, none⟩) f n = some ⟨n14, f, none⟩ := by unfold cutA; rw [if_neg (by omega), Option.map_some, Addr.add_mid, Nat.zero_add]
      go_upto_region 7 with (fail)
      refine wp_region_list (WL.out ?_)
      refine g_val (D b) ?_
      refine g_val (.bool true) ?_
      refine g_nil ?_
      simp only [Act.put, List.setIfInBounds_toArray, List.set_cons_succ, List.set_cons_zero]
      go_upto_region 9 with (fail)
      refine wp_region_list (WL.out ?_)
      refine g_val (Nv .i64 e) ?_
      refine g_val (Nv .i64 f) ?_ (B.sub_int (a := e) (c := 256) (d := f) hfe.symm (by omega) wr)
      refine g_val (Nv .i64 f) ?_
      refine g_nil ?_
      simp only [Act.put, List.setIfInBounds_toArray, List.set_cons_succ, List.set_cons_zero]
      go_upto_region 10 with (fail)
      refine Rg.pd [7] (fun _ => [(41, .slice (some ⟨n14, 0, none⟩) n n), (42, Nv .i64 f), (43, .slice (some ⟨n14, f, none⟩) (n - f) (n - f)), (44, D b), (45, D b), (46, E b 1), (47, .slice (some ⟨b, 1, none⟩) 256 256), (48, Nv .i64 256)]) (OI w (fun s ν => [[(n14, vals .u8 n (bf X e), 5)], [(n14, vals .u8 n (laid (bf X e) (fun j => byt X (256 * k + j)) f 256), 5)]].getD s [])) (fun _ => 0) hO.drew (Rg.ac nv (Rg.ac nv (Rg.ac (nx (fun _ => .slice (some ⟨n14, f, none⟩) (n - f) (n - f)) (fun _ w => b_loE hfn rfl rfl hcut w)) (Rg.ac nv (Rg.ac nv (Rg.ac nv (Rg.ac nv (Rg.ac (scp 0 0 n14 n f (n - f) (n - f) 256 256 256 (bf X e) (fun j => byt X (256 * k + j)) (some ⟨b, 1, none⟩) (by omega) (by omega) (fun ν w hO => rc_row (hP.call hO.low) fun i hi => pc_o _ _ hi)) Rg.an)))))))) ?_
      intro ν w3 hO
      replace hO : Own w w3 [(n14, vals .u8 n (laid (bf X e) (fun j => byt X (256 * k + j)) f 256), 5)] := hO
      simp only [Rg.putL, Act.put, List.setIfInBounds_toArray, List.set_cons_succ, List.set_cons_zero]
      clear ν
      rw [hfe, bf_step hf2] at hO
      go_upto_region 8 with (fail)
      refine wp_region_list (WL.out ?_)
      refine g_val (D b) ?_
      refine g_val (D b) ?_
      refine g_val (D b) ?_
      refine g_la (.pointer p') (((hP.call hO.low).cell 0).trans (pc_p _ _)) agg_pp ?_
      refine g_val (.pointer p') ?_
      refine g_nil ?_
      simp only [Act.put, List.setIfInBounds_toArray, List.set_cons_succ, List.set_cons_zero]
      have HO := hide hO
      clear hO
      go_wp2_with (fail)
      go_roundw
      case rel => exact ⟨k, f, p', by omega, hf2, rfl, rfl, hC', HO.out⟩
      case measure => show ((f : Nat) : Int).toNat < ((e : Nat) : Int).toNat; omega
    | zero =>
      obtain rfl : po = none := hC
      obtain rfl : e = 0 := by omega
      rw [bf_zero] at hO
      go_upto_region 7 with (fail)
      refine wp_region_list (WL.out ?_)
      refine g_val (.pointer none) ?_
      refine g_val (.bool false) ?_
      refine g_nil ?_
      simp only [Act.put, List.setIfInBounds_toArray, List.set_cons_succ, List.set_cons_zero]
      have HO := hide hO
      clear hO
      go_upto_region 11 with (fail)
      refine wp_region_list (WL.out ?_)
      refine g_val (.slice (some ⟨n14, 0, none⟩) n n) ?_
      refine g_val (.slice (some ⟨n14, 0, none⟩) n n) ?_
      refine g_nil ?_
      simp only [Act.put, List.setIfInBounds_toArray, List.set_cons_succ, List.set_cons_zero]
      go_wp2_with (fail)
      go_ret
      exact ⟨n14, rfl, HO.out⟩
end W
end Go.Proofs.Ytkljpidlfddgbaa

/- ShaOwn's walk: for all bytes the law returns true. -/
import Derived.Test.YtplckpmicoohnaaDoorLn
namespace Go.Proofs.YtplckpmicoohnaaDoor
open Go.RowKit

set_option maxRecDepth 100000 in
set_option maxHeartbeats 4000000 in
theorem own_walk (A B C : Option Addr) (a b c : List Nat) (ca cb cc : Nat) (w : World) (hG : Glob w) (hA : Rds w A a) (hca : a.length ≤ ca) (ha : ∀ x ∈ a, x < 256) (hB : Rds w B b) (hcb : b.length ≤ cb) (hb : ∀ x ∈ b, x < 256) (hC : Rds w C c) (hcc : c.length ≤ cc) (hc : ∀ x ∈ c, x < 256) :
    Calls Tryd.prog 6 #[.slice A a.length ca, .slice B b.length cb, .slice C c.length cc] w fun e w' => e = .returned (.bool true) ∧ Below w.heap.size w w' := by
  have HG := hide hG
  have HA := hide hA
  have HB := hide hB
  have HC := hide hC
  have Hca := hide hca
  have Hcb := hide hcb
  have Hcc := hide hcc
  have Ha := hide ha
  have Hb := hide hb
  have Hc := hide hc
  clear hG hA hB hC hca hcb hcc ha hb hc
  go_enter Tryd.func6, Tryd.ntmps6
  go_upto_region 2 with (go_at_call 8; refine (awake_at _ _ rfl HG.out).mono ?_; rintro e w1 ⟨rfl, hb⟩; have L1 := hide hb; clear hb; dsimp only)
  by_cases hl1 : 1000 < a.length
  · have hi : (1000 : Int) < (a.length : Int) := by omega
    go_wp2
    go_ret
    exact ⟨rfl, L1.out⟩
  have hi1 : ¬ (1000 : Int) < (a.length : Int) := by omega
  by_cases hl2 : 1000 < b.length
  · have hi : (1000 : Int) < (b.length : Int) := by omega
    go_wp2
    go_ret
    exact ⟨rfl, L1.out⟩
  have hi2 : ¬ (1000 : Int) < (b.length : Int) := by omega
  by_cases hl3 : 1000 < c.length
  · have hi : (1000 : Int) < (c.length : Int) := by omega
    go_wp2
    go_ret
    exact ⟨rfl, L1.out⟩
  have hi3 : ¬ (1000 : Int) < (c.length : Int) := by omega
  have Hlen : Hid (a.length ≤ 1000 ∧ b.length ≤ 1000 ∧ c.length ≤ 1000) := hide (by omega)
  clear hl1 hl2 hl3
  have hz1 := zero31
  go_upto_region 7 with (first
    | (go_at_call 11; refine (new_any _).mono ?_; rintro e k11 ⟨rfl, hb⟩; have L_11 := hide (keepLow2 L1.out hb); clear hb L1; dsimp only)
    | (go_at_call 12; refine (write_n (fun _ => 0) (fun _ => 0) 0 [] a a A ca _ _ rfl (HG.out.low L_11.out) rep_none Ha.out (HA.out.low L_11.out) Hca.out (by have := Hlen.out; show 0 + a.length < _; omega) rfl).mono ?_; rintro e k12 ⟨r1, f1, n1, rfl, hR1, hb⟩; have L_12 := hide (keepLow2 L_11.out hb); have HR1 := hide hR1; clear hR1; clear hb L_11; dsimp only)
    | (refine wpList_store_abs rfl 31 _ _ rfl k12.heap.size (stc r1 f1 n1) rfl rfl 31 _ (Blk.new k12 _ _) (by rw [stc_size]; exact cells31) (by simp only [stc_size]) (stc_one _ _ _) ?_; intro k13 Bn Sn; have L_13 := hide (Sn.low _ _ (L_12.out.alloc L_12.out.size _) L_12.out.size); have S_13 := hide Bn; clear Bn Sn L_12)
    | (refine wpList_load_w (by rfl) 31 _ rfl (k12.heap.size) rfl 31 _ (0, 0) _ S_13.out Tryd.underlying31 rfl (by rw [stc_size]; exact cells31) ?_)
    | (go_at_call 12; refine (write_n r1 f1 n1 a b (a ++ b) B cb _ _ rfl (HG.out.low L_13.out) HR1.out Hb.out (HB.out.low L_13.out) Hcb.out (by have := Hlen.out; omega) rfl).mono ?_; rintro e k14 ⟨r2, f2, n2, rfl, hR2, hb⟩; have S_14 := hide (S_13.out.call hb); have L_14 := hide (keepLow2 L_13.out hb); have HR2 := hide hR2; clear hR2; clear hb S_13 L_13; dsimp only)
    | (refine wpList_store_abs rfl 31 _ _ rfl k14.heap.size (stc r2 f2 n2) rfl rfl 31 _ (Blk.new k14 _ _) (by rw [stc_size]; exact cells31) (by simp only [stc_size]) (stc_one _ _ _) ?_; intro k15 Bn Sn; have S_15 := hide (Sn.other _ _ _ (Nat.ne_of_gt S_14.out.lt) (S_14.out.alloc _)); have L_15 := hide (Sn.low _ _ (L_14.out.alloc L_14.out.size _) L_14.out.size); have X_15 := hide Bn; clear Bn Sn S_14 L_14)
    | (refine wpList_load_w (by rfl) 31 _ rfl (k12.heap.size) rfl 31 _ (0, 0) _ S_15.out Tryd.underlying31 rfl (by rw [stc_size]; exact cells31) ?_)
    | (go_at_call 12; refine (write_n r1 f1 n1 a c (a ++ c) C cc _ _ rfl (HG.out.low L_15.out) HR1.out Hc.out (HC.out.low L_15.out) Hcc.out (by have := Hlen.out; omega) rfl).mono ?_; rintro e k16 ⟨r3, f3, n3, rfl, hR3, hb⟩; have S_16 := hide (S_15.out.call hb); have X_16 := hide (X_15.out.call hb); have L_16 := hide (keepLow2 L_15.out hb); have HR3 := hide hR3; clear hR3; clear hb S_15 X_15 L_15; dsimp only)
    | (refine wpList_store_abs rfl 31 _ _ rfl k16.heap.size (stc r3 f3 n3) rfl rfl 31 _ (Blk.new k16 _ _) (by rw [stc_size]; exact cells31) (by simp only [stc_size]) (stc_one _ _ _) ?_; intro k17 Bn Sn; have S_17 := hide (Sn.other _ _ _ (Nat.ne_of_gt S_16.out.lt) (S_16.out.alloc _)); have X_17 := hide (Sn.other _ _ _ (Nat.ne_of_gt X_16.out.lt) (X_16.out.alloc _)); have L_17 := hide (Sn.low _ _ (L_16.out.alloc L_16.out.size _) L_16.out.size); have Y_17 := hide Bn; clear Bn Sn S_16 X_16 L_16))
  simp only [Act.put]
  clear hz1
  have q1 := eq_self (dg (a ++ b))
  have q2 := eq_self (dg (a ++ c))
  have q3 := eq_self (dg a)
  go_wp2_with (first
    | (refine wpList_load_w (by rfl) 31 _ rfl (k14.heap.size) rfl 31 _ (0, 0) _ X_17.out Tryd.underlying31 rfl (by rw [stc_size]; exact cells31) ?_)
    | (go_at_call 13; refine (sum_n r2 f2 n2 (a ++ b) (a ++ b) _ _ rfl (HG.out.low L_17.out) HR2.out (by have := Hlen.out; rw [List.length_append]; omega) rfl).mono ?_; rintro e k18 ⟨rfl, hb⟩; have S_18 := hide (S_17.out.call hb); have X_18 := hide (X_17.out.call hb); have Y_18 := hide (Y_17.out.call hb); have L_18 := hide (keepLow2 L_17.out hb); clear hb S_17 X_17 Y_17 L_17; dsimp only)
    | (go_at_call 9; refine (all_two A B a b ca cb k18.heap.size 22 _ _ rfl (Blk.new k18 _ _) (HG.out.low (L_18.out.alloc L_18.out.size _)) (HA.out.low (L_18.out.alloc L_18.out.size _)) Hca.out Ha.out (HB.out.low (L_18.out.alloc L_18.out.size _)) Hcb.out Hb.out (by have := Hlen.out; omega)).mono ?_; rintro e k19 ⟨rfl, hb⟩; have S_19 := hide ((S_18.out.alloc _).call hb); have X_19 := hide ((X_18.out.alloc _).call hb); have Y_19 := hide ((Y_18.out.alloc _).call hb); have L_19 := hide (keepLow2 (L_18.out.alloc L_18.out.size _) hb); clear hb S_18 X_18 Y_18 L_18; dsimp only)
    | (refine wpList_load_w (by rfl) 31 _ rfl (k16.heap.size) rfl 31 _ (0, 0) _ Y_19.out Tryd.underlying31 rfl (by rw [stc_size]; exact cells31) ?_)
    | (go_at_call 13; refine (sum_n r3 f3 n3 (a ++ c) (a ++ c) _ _ rfl (HG.out.low L_19.out) HR3.out (by have := Hlen.out; rw [List.length_append]; omega) rfl).mono ?_; rintro e k20 ⟨rfl, hb⟩; have S_20 := hide (S_19.out.call hb); have X_20 := hide (X_19.out.call hb); have Y_20 := hide (Y_19.out.call hb); have L_20 := hide (keepLow2 L_19.out hb); clear hb S_19 X_19 Y_19 L_19; dsimp only)
    | (go_at_call 9; refine (all_two A C a c ca cc k20.heap.size 22 _ _ rfl (Blk.new k20 _ _) (HG.out.low (L_20.out.alloc L_20.out.size _)) (HA.out.low (L_20.out.alloc L_20.out.size _)) Hca.out Ha.out (HC.out.low (L_20.out.alloc L_20.out.size _)) Hcc.out Hc.out (by have := Hlen.out; omega)).mono ?_; rintro e k21 ⟨rfl, hb⟩; have S_21 := hide ((S_20.out.alloc _).call hb); have X_21 := hide ((X_20.out.alloc _).call hb); have Y_21 := hide ((Y_20.out.alloc _).call hb); have L_21 := hide (keepLow2 (L_20.out.alloc L_20.out.size _) hb); clear hb S_20 X_20 Y_20 L_20; dsimp only)
    | (refine wpList_load_w (by rfl) 31 _ rfl (k12.heap.size) rfl 31 _ (0, 0) _ S_21.out Tryd.underlying31 rfl (by rw [stc_size]; exact cells31) ?_)
    | (go_at_call 13; refine (sum_n r1 f1 n1 a a _ _ rfl (HG.out.low L_21.out) HR1.out (by have := Hlen.out; omega) rfl).mono ?_; rintro e k22 ⟨rfl, hb⟩; have S_22 := hide (S_21.out.call hb); have X_22 := hide (X_21.out.call hb); have Y_22 := hide (Y_21.out.call hb); have L_22 := hide (keepLow2 L_21.out hb); clear hb S_21 X_21 Y_21 L_21; dsimp only)
    | (go_at_call 9; refine (all_one A a ca k22.heap.size 22 _ _ rfl (Blk.new k22 _ _) (HG.out.low (L_22.out.alloc L_22.out.size _)) (HA.out.low (L_22.out.alloc L_22.out.size _)) Hca.out Ha.out (by have := Hlen.out; omega)).mono ?_; rintro e k23 ⟨rfl, hb⟩; have S_23 := hide ((S_22.out.alloc _).call hb); have X_23 := hide ((X_22.out.alloc _).call hb); have Y_23 := hide ((Y_22.out.alloc _).call hb); have L_23 := hide (keepLow2 (L_22.out.alloc L_22.out.size _) hb); clear hb S_22 X_22 Y_22 L_22; dsimp only))
  go_ret
  exact ⟨rfl, L_23.out⟩
end Go.Proofs.YtplckpmicoohnaaDoor

/- ShaNone's walk: for all bytes and any number of times the law returns true. -/
import Derived.Test.YtplckpmicoohnaaDoorCl
namespace Go.Proofs.YtplckpmicoohnaaDoor
open Go.RowKit

theorem sum_n (r f : Nat → Nat) (n : Nat) (m x : List Nat) (args : Array Value) (w : World) (h : args = #[.agg (stc r f n)]) (hG : Glob w) (hR : Rep r f n m) (hs : m.length < 2 ^ 60) (hx : m = x) :
    Calls Tryd.prog 13 args w fun e w' => e = .returned (.agg (vals .u8 64 (dg x))) ∧ Below w.heap.size w w' := by
  subst hx; exact sum_at r f n m args w h hG hR (by have := hR.len; omega)
theorem write_n (r f : Nat → Nat) (n : Nat) (m l x : List Nat) (A : Option Addr) (cap : Nat) (args : Array Value) (w : World) (h : args = #[.agg (stc r f n), .slice A l.length cap]) (hG : Glob w) (hR : Rep r f n m) (hl : ∀ x ∈ l, x < 256) (hA : Rds w A l) (hcap : l.length ≤ cap) (hs : m.length + l.length < 2 ^ 61) (hx : m ++ l = x) :
    Calls Tryd.prog 12 args w fun e w' => ∃ r' f' n', e = .returned (.agg (stc r' f' n')) ∧ Rep r' f' n' x ∧ Below w.heap.size w w' := by
  subst hx; exact write_at r f n m l A cap args w h hG hR hl hA hcap (by have := hR.len; omega)
theorem write_nil (r f : Nat → Nat) (n : Nat) (m : List Nat) (args : Array Value) (w : World) (h : args = #[.agg (stc r f n), .slice none 0 0]) (hG : Glob w) (hR : Rep r f n m) (hs : m.length < 2 ^ 60) :
    Calls Tryd.prog 12 args w fun e w' => ∃ r' f' n', e = .returned (.agg (stc r' f' n')) ∧ Rep r' f' n' m ∧ Below w.heap.size w w' :=
  write_n r f n m [] m none 0 args w h hG hR (fun x hx => by cases hx) (Or.inl rfl) (Nat.le_refl _) (by show m.length + 0 < _; omega) (List.append_nil m)
theorem write_zero (r f : Nat → Nat) (n : Nat) (m : List Nat) (A : Option Addr) (c : Nat) (args : Array Value) (w : World) (h : args = #[.agg (stc r f n), .slice A 0 c]) (hG : Glob w) (hR : Rep r f n m) (hs : m.length < 2 ^ 60) :
    Calls Tryd.prog 12 args w fun e w' => ∃ r' f' n', e = .returned (.agg (stc r' f' n')) ∧ Rep r' f' n' m ∧ Below w.heap.size w w' :=
  write_n r f n m [] m A c args w h hG hR (fun x hx => by cases hx) (Or.inl rfl) (Nat.zero_le _) (by show m.length + 0 < _; omega) (List.append_nil m)
theorem all_three_n (A B C : Option Addr) (k l m x : List Nat) (ca cb cc b : Nat) (t : TypeId) (args : Array Value) (w : World) (h : args = #[.slice (some ⟨b, 0, none⟩) 3 3]) (hB : Blk w b #[.slice A k.length ca, .slice B l.length cb, .slice C m.length cc] t) (hG : Glob w) (hA : Rds w A k) (hc : k.length ≤ ca) (hl : ∀ x ∈ k, x < 256) (hA2 : Rds w B l) (hc2 : l.length ≤ cb) (hl2 : ∀ x ∈ l, x < 256)
    (hA3 : Rds w C m) (hc3 : m.length ≤ cc) (hl3 : ∀ x ∈ m, x < 256) (hs : k.length + (l.length + m.length) < 2 ^ 60) (hx : k ++ (l ++ m) = x) :
    Calls Tryd.prog 9 args w fun e w' => e = .returned (.agg (vals .u8 64 (dg x))) ∧ Below w.heap.size w w' := by
  subst hx; exact all_three A B C k l m ca cb cc b t args w h hB hG hA hc hl hA2 hc2 hl2 hA3 hc3 hl3 hs
theorem rem10 (t : Nat) : (t : Int).tmod 10 = ((t % 10 : Nat) : Int) := by rw [Int.tmod_eq_emod_of_nonneg (by omega)]; omega
set_option maxRecDepth 100000 in
set_option maxHeartbeats 1000000 in
theorem none_walk (A : Option Addr) (l : List Nat) (cap t : Nat) (w : World) (hG : Glob w) (hA : Rds w A l) (hcap : l.length ≤ cap) (hl : ∀ x ∈ l, x < 256) (ht : t < 256) :
    Calls Tryd.prog 7 #[.slice A l.length cap, .int .u8 t] w fun e w' => e = .returned (.bool true) ∧ Below w.heap.size w w' := by
  have HG := hide hG
  have HA := hide hA
  have Hcap := hide hcap
  have Hl := hide hl
  have Ht := hide ht
  clear hG hA hcap hl ht
  have hz1 := zero31
  go_enter Tryd.func7, Tryd.ntmps7
  go_upto_region 2 with (go_at_call 8; refine (awake_at _ _ rfl HG.out).mono ?_; rintro e w1 ⟨rfl, hb⟩; have L1 := hide hb; clear hb; dsimp only)
  by_cases hlen : 1000 < l.length
  · have hi : (1000 : Int) < (l.length : Int) := by omega
    go_wp2
    go_ret
    exact ⟨rfl, L1.out⟩
  have hi : ¬ (1000 : Int) < (l.length : Int) := by omega
  have Hlen := hide hlen
  clear hlen
  go_wp2_with (first
    | (refine wpList_build rfl 31 #[] rfl (by simp [built31]) ?_; simp only [List.map_toArray, List.map_nil, built31, Option.getD_some])
    | (refine wpList_store_abs rfl 31 _ _ rfl w1.heap.size (stc (fun _ => 0) (fun _ => 0) 0) rfl rfl 31 _ (Blk.new w1 _ _) (by rw [stc_size]; exact cells31) (by simp only [stc_size]) (stc_one _ _ _) ?_; intro k2 Bn Sn; have L2 := hide (Sn.low _ _ (L1.out.alloc L1.out.size _) L1.out.size); have B2 := hide Bn; have Hg := hide L1.out.size; clear Bn Sn L1))
  clear hz1
  generalize w1.heap.size = bs at *
  obtain ⟨s, hs⟩ : ∃ s, s = t % 10 := ⟨_, rfl⟩
  have hr1 : (t : Int).tmod 10 = (s : Int) := by rw [hs]; exact rem10 t
  have hr2 : (t : Int) % 10 = (s : Int) := by omega
  have hs10 : s < 10 := by omega
  clear hs
  have hw1 : wrap64 (t : Int) = (t : Int) := by have := Ht.out; unfold wrap64; omega
  go_loopw [7] (fun i wr => ∃ (k : Nat) (r f : Nat → Nat) (n : Nat), k ≤ s ∧ i = .int .i64 k ∧ Rep r f n [] ∧ Blk wr bs (stc r f n) 31 ∧ Below w.heap.size w wr) (fun i _ => s - (intOf i).toNat)
  case atStart => exact ⟨0, _, _, 0, by omega, rfl, rep_none, B2.out, L2.out⟩
  case round =>
    clear B2 L2
    obtain ⟨k, r, f, n, hk, rfl, hR, Bs, L⟩ := hrel
    have HR := hide hR
    have HBs := hide Bs
    have HL := hide L
    clear hR Bs L
    by_cases hlt : k < s
    · have hk0 : (0 : Int) ≤ (k : Int) := by omega
      have hkl : (k : Int) < (s : Int) := by omega
      go_wp2_with (first
        | (refine wpList_load_row rfl 31 _ rfl bs rfl 31 _ (0, 0) _ HBs.out Tryd.underlying31 rfl (by rw [stc_size]; exact cells31) ?_)
        | (go_at_call 12; refine (write_nil r f n [] _ _ rfl (HG.out.low HL.out) HR.out (by decide)).mono ?_; rintro e w4 ⟨r2, f2, n2, rfl, hR2, hb⟩; have B5 := hide (HBs.out.call hb); have L5 := hide (HL.out.trans (hb.mono HL.out.size)); have HR2 := hide hR2; clear hb hR2; dsimp only)
        | (refine wpList_store_row rfl 31 _ _ rfl bs (stc r2 f2 n2) rfl rfl 31 _ B5.out (by rw [stc_size]; exact cells31) (by rw [stc_size, stc_size]) (stc_one _ _ _) ?_))
      go_roundw
      case rel => exact ⟨k + 1, r2, f2, n2, by omega, by go_num, HR2.out, B5.out.row _, Below.row L5.out Hg.out _⟩
      case measure => simp [intOf]; omega
    · have e4 : k = s := by omega
      subst e4
      have hkl : ¬ (k : Int) < (k : Int) := by omega
      have hz1 := zero31
      go_upto_region 10 with (first
        | (refine wpList_load_row rfl 31 _ rfl bs rfl 31 _ (0, 0) _ HBs.out Tryd.underlying31 rfl (by rw [stc_size]; exact cells31) ?_)
        | (go_at_call 12; refine (write_n r f n [] l l A cap _ _ rfl (HG.out.low HL.out) HR.out Hl.out (HA.out.low HL.out) Hcap.out (by have := Hlen.out; show 0 + l.length < _; omega) rfl).mono ?_; rintro e w4 ⟨r2, f2, n2, rfl, hR2, hb⟩; have B5 := hide (HBs.out.call hb); have L5 := hide (HL.out.trans (hb.mono HL.out.size)); have HR2 := hide hR2; clear hb hR2 HBs HL; dsimp only)
        | (go_at_call 12; refine (write_nil r2 f2 n2 l _ _ rfl (HG.out.low L5.out) HR2.out (by have := Hlen.out; omega)).mono ?_; rintro e w5 ⟨r3, f3, n3, rfl, hR3, hb⟩; have B6 := hide (B5.out.call hb); have L6 := hide (L5.out.trans (hb.mono L5.out.size)); have HR3 := hide hR3; clear hb hR3 B5 L5; dsimp only)
        | (refine wpList_store_abs rfl 31 _ _ rfl w5.heap.size (stc r3 f3 n3) rfl rfl 31 _ (Blk.new w5 _ _) (by rw [stc_size]; exact cells31) (by simp only [stc_size]) (stc_one _ _ _) ?_; intro k2 Bn Sn; have B7 := hide (Sn.other _ _ _ (Nat.ne_of_gt B6.out.lt) (B6.out.alloc _)); have L7 := hide (Sn.low _ _ (L6.out.alloc L6.out.size _) L6.out.size); have B8 := hide Bn; clear Bn Sn B6 L6))
      simp only [Act.put]
      clear hz1
      have q1 := eq_self (dg [])
      have q2 := eq_self (dg l)
      go_wp2_with (first
        | (refine wpList_load_w (by rfl) 31 _ rfl (bs) rfl 31 _ (0, 0) _ B7.out Tryd.underlying31 rfl (by rw [stc_size]; exact cells31) ?_)
        | (go_at_call 13; refine (sum_n r f n [] [] _ _ rfl (HG.out.low L7.out) HR.out (by decide) rfl).mono ?_; rintro e k11 ⟨rfl, hb⟩; have S_11 := hide (B7.out.call hb); have T_11 := hide (B8.out.call hb); have L_11 := hide (keepLow2 L7.out hb); clear hb B7 B8 L7; dsimp only)
        | (go_at_call 9; refine (all_none _ _ rfl (HG.out.low L_11.out)).mono ?_; rintro e k12 ⟨rfl, hb⟩; have S_12 := hide (S_11.out.call hb); have T_12 := hide (T_11.out.call hb); have L_12 := hide (keepLow2 L_11.out hb); clear hb S_11 T_11 L_11; dsimp only)
        | (refine wpList_load_w (by rfl) 31 _ rfl (w5.heap.size) rfl 31 _ (0, 0) _ T_12.out Tryd.underlying31 rfl (by rw [stc_size]; exact cells31) ?_)
        | (go_at_call 13; refine (sum_n r3 f3 n3 l l _ _ rfl (HG.out.low L_12.out) HR3.out (by have := Hlen.out; omega) rfl).mono ?_; rintro e k13 ⟨rfl, hb⟩; have S_13 := hide (S_12.out.call hb); have T_13 := hide (T_12.out.call hb); have L_13 := hide (keepLow2 L_12.out hb); clear hb S_12 T_12 L_12; dsimp only)
        | (go_at_call 9; refine (all_one A l cap k13.heap.size 22 _ _ rfl (Blk.new k13 _ _) (HG.out.low (L_13.out.alloc L_13.out.size _)) (HA.out.low (L_13.out.alloc L_13.out.size _)) Hcap.out Hl.out (by have := Hlen.out; omega)).mono ?_; rintro e k14 ⟨rfl, hb⟩; have S_14 := hide ((S_13.out.alloc _).call hb); have T_14 := hide ((T_13.out.alloc _).call hb); have L_14 := hide (keepLow2 (L_13.out.alloc L_13.out.size _) hb); clear hb S_13 T_13 L_13; dsimp only)
        | (refine wpList_load_w (by rfl) 31 _ rfl (w5.heap.size) rfl 31 _ (0, 0) _ T_14.out Tryd.underlying31 rfl (by rw [stc_size]; exact cells31) ?_)
        | (go_at_call 12; refine (write_zero r3 f3 n3 l _ _ _ _ rfl (HG.out.low (L_14.out.alloc L_14.out.size _)) HR3.out (by have := Hlen.out; omega)).mono ?_; rintro e k15 ⟨r4, f4, n4, rfl, hR4, hb⟩; have S_15 := hide ((S_14.out.alloc _).call hb); have T_15 := hide ((T_14.out.alloc _).call hb); have L_15 := hide (keepLow2 (L_14.out.alloc L_14.out.size _) hb); have HR4 := hide hR4; clear hR4; clear hb S_14 T_14 L_14; dsimp only)
        | (go_at_call 13; refine (sum_n r4 f4 n4 l l _ _ rfl (HG.out.low L_15.out) HR4.out (by have := Hlen.out; omega) rfl).mono ?_; rintro e k16 ⟨rfl, hb⟩; have S_16 := hide (S_15.out.call hb); have T_16 := hide (T_15.out.call hb); have L_16 := hide (keepLow2 L_15.out hb); clear hb S_15 T_15 L_15; dsimp only)
        | (go_at_call 9; refine (all_three_n none A none [] l [] l 0 cap 0 k16.heap.size 22 _ _ rfl (Blk.new k16 _ _) (HG.out.low (L_16.out.alloc L_16.out.size _)) (Or.inl rfl) (Nat.le_refl _) (fun x hx => by cases hx) (HA.out.low (L_16.out.alloc L_16.out.size _)) Hcap.out Hl.out (Or.inl rfl) (Nat.le_refl _) (fun x hx => by cases hx) (by have := Hlen.out; show 0 + (l.length + 0) < _; omega) (List.append_nil l)).mono ?_; rintro e k17 ⟨rfl, hb⟩; have S_17 := hide ((S_16.out.alloc _).call hb); have T_17 := hide ((T_16.out.alloc _).call hb); have L_17 := hide (keepLow2 (L_16.out.alloc L_16.out.size _) hb); clear hb S_16 T_16 L_16; dsimp only))
      go_ret
      exact ⟨rfl, L_17.out⟩
end Go.Proofs.YtplckpmicoohnaaDoor

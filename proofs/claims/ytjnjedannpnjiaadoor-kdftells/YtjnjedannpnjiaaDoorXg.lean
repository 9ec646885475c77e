/- Walks of chapter 5: awake. -/
import Derived.Test.YtjnjedannpnjiaaDoorXf
namespace Go.Proofs.YtjnjedannpnjiaaDoor
open Go.RowKit

/-- Expand, over a key of a block. -/
theorem expand_blk (h0 : SumOk) (f : Nat → Nat) (bk bu c n : Nat) (args : Array Value) (w : World) (h : args = #[.slice (some ⟨bk, 0, none⟩) 64 64, .slice (some ⟨bu, 0, none⟩) 1 1, .int .i64 (n : Int)]) (hn : n ≤ 16320) (hf : ∀ i, f i < 256) (hc : c < 256) (hG : Glob w) (hK : Blk w bk (vals .u8 64 f) 27) (hU : Cel w bu #[.int .u8 (c : Nat)]) :
    Calls Tryd.prog 10 args w fun e w' => ∃ g, e = .returned (.tuple #[.slice (some ⟨g, 0, none⟩) n n, .int .i64 0]) ∧ Rds w' (some ⟨g, 0, none⟩) (xp ((List.range 64).map f) [c] n) ∧ Below w.heap.size w w' := by
  have hl : ((List.range 64).map f).length = 64 := by simp
  refine (expand_at h0 (some ⟨bk, 0, none⟩) (some ⟨bu, 0, none⟩) ((List.range 64).map f) [c] 64 1 n args w (by rw [h, hl]; rfl) hn hG (rds_vals hK) (by rw [hl]; exact Nat.le_refl _) (fun x hx => by obtain ⟨i, _, rfl⟩ := List.mem_map.1 hx; exact hf i) (rds_lits [c] hU rfl) (Nat.le_refl _) (fun x hx => by rw [List.mem_singleton.1 hx]; exact hc) (by rw [hl]; omega) (by simp)).mono ?_
  rintro e w' ⟨g, rfl, _, hB, hb⟩
  refine ⟨g, rfl, rds_blk hB _ fun i x hx => ?_, hb⟩
  have hi := (List.getElem?_eq_some_iff.1 hx).1
  rw [xp_len] at hi
  rw [vals_get _ _ _ _ hi, List.getD_eq_getElem?_getD, hx]; rfl
set_option maxRecDepth 100000 in
set_option maxHeartbeats 4000000 in
theorem awake_any (h0 : SumOk) (w : World) (hG : Glob w) : Calls Tryd.prog 9 #[] w fun e w' => e = .returned (.bool true) ∧ Below w.heap.size w w' := by
  have H0 := hide h0
  have HG := hide hG
  clear h0 hG
  obtain ⟨f, hf⟩ : ∃ f, f = mc [] [97] := ⟨_, rfl⟩
  have Hfl : Hid (∀ i, f i < 256) := hide (fun i => by rw [hf]; exact mc_lt _ _ i)
  have Hf := hide hf
  clear hf
  have L0 := hide (Below.refl w.heap.size w)
  have hz := zero24
  go_enter Tryd.func9, Tryd.ntmps9
  go_upto_region 2 with (first
    | (refine wpList_conv_abs (by rfl) _ rfl rfl (Blk.new w _ _).cel ?_; intro k1 fC lC; have c1 := hide (fC _ _ (Blk.new w _ _).cel); have L1 := hide (lC _ _ (L0.out.alloc L0.out.size _) L0.out.size); clear fC lC L0)
    | (go_at_call 12; refine (ext_at f H0.out none (some ⟨w.heap.size, 0, none⟩) [] [97] Hf.out 0 1 _ _ rfl (HG.out.low L1.out) (Or.inl rfl) (Nat.le_refl _) (fun x hx => by cases hx) (rds_lits [97] c1.out rfl) (Nat.le_refl _) (by decide) (by decide) (by decide)).mono ?_; rintro e k2 ⟨rfl, hb⟩; have L2 := hide (keepLow2 L1.out hb); clear hb L1 c1; dsimp only)
    | (refine wpList_store_abs rfl 27 _ _ rfl k2.heap.size (vals .u8 64 f) rfl rfl 27 _ (Blk.new k2 _ _) (by rw [vals_size]; exact cells24) (by simp only [vals_size]) (vals_one _ _ _) ?_; intro k3 Bn Sn; have D3 := hide Bn; have L3 := hide (Sn.low _ _ (L2.out.alloc L2.out.size _) L2.out.size); clear Bn Sn L2))
  clear hz
  generalize k2.heap.size = bk at *
  go_upto_region 3 with (first
    | (refine wpList_conv_abs (by rfl) _ rfl rfl (Blk.new k3 _ _).cel ?_; intro k4 fC lC; have c4 := hide (fC _ _ (Blk.new k3 _ _).cel); have B4 := hide (lC _ _ ((Below.refl _ k3).alloc (Nat.le_refl _) _) (Nat.le_refl _)); have L4 := hide (keepLow2 L3.out B4.out); have D4 := hide (D3.out.call B4.out); clear fC lC L3 D3 B4)
    | (go_at_call 10; refine (expand_blk H0.out f bk k3.heap.size 98 10 _ _ rfl (by decide) Hfl.out (by decide) (HG.out.low L4.out) D4.out c4.out).mono ?_; rintro e k5 ⟨ga, rfl, hR, hb⟩; have R5 := hide hR; have L5 := hide (keepLow2 L4.out hb); have D5 := hide (D4.out.call hb); clear hb hR L4 D4 c4; dsimp only))
  go_upto_region 4 with (first
    | (refine wpList_conv_abs (by rfl) _ rfl rfl (Blk.new k5 _ _).cel ?_; intro k6 fC lC; have c6 := hide (fC _ _ (Blk.new k5 _ _).cel); have B6 := hide (lC _ _ ((Below.refl _ k5).alloc (Nat.le_refl _) _) (Nat.le_refl _)); have L6 := hide (keepLow2 L5.out B6.out); have D6 := hide (D5.out.call B6.out); have R6 := hide (R5.out.low B6.out); clear fC lC L5 D5 R5 B6)
    | (go_at_call 10; refine (expand_blk H0.out f bk k5.heap.size 98 100 _ _ rfl (by decide) Hfl.out (by decide) (HG.out.low L6.out) D6.out c6.out).mono ?_; rintro e k7 ⟨gb, rfl, hR, hb⟩; have R7 := hide (R6.out.low hb); have S7 := hide hR; have L7 := hide (keepLow2 L6.out hb); have D7 := hide (D6.out.call hb); clear hb hR L6 D6 R6 c6; dsimp only))
  go_upto_region 7 with (go_at_call 10; refine (expand_long none none 0 0 0 0 16321 (by decide) _ _ rfl).mono ?_; rintro e k8 ⟨rfl, hb⟩; have R8 := hide (R7.out.low hb); have S8 := hide (S7.out.low hb); have L8 := hide (keepLow2 L7.out hb); have D8 := hide (D7.out.call hb); clear hb L7 D7 R7 S7; dsimp only)
  obtain ⟨la, hla⟩ : ∃ la, la = xp ((List.range 64).map f) [98] 10 := ⟨_, rfl⟩
  have T8 := hide (S8.out.take 10)
  rw [xp_begins _ _ 10 100 (by omega), ← hla] at T8
  rw [← hla] at R8
  refine aw_region _ (fun _ _ _ _ _ h => h) k8 _ _ _ _ _ _ _ _ _ _ _ _ _ _ _ _ _ _ _ _ _ _ _ _ _ _ _ _ _ _ _ _ _ _ _ _ _ _ _ _ _ _ _ _ _ _ _ _ _ _ _ _ _ _ _ _ _ H0.out f Hf bk ga gb la (hide (by rw [hla, xp_len])) (by rw [hla]; exact xp_lt _ _ _) (HG.out.low L8.out) D8.out R8.out T8.out ?_
  intro b1 b2 w9 hS9 _ _ _
  have L9 := hide (keepLow2 L8.out hS9)
  clear hS9
  go_wp2
  go_ret
  exact ⟨rfl, L9.out⟩
theorem awake_at (h0 : SumOk) (args : Array Value) (w : World) (h : args = #[]) (hG : Glob w) : Calls Tryd.prog 9 args w fun e w' => e = .returned (.bool true) ∧ Below w.heap.size w w' := by
  subst h; exact awake_any h0 w hG
end Go.Proofs.YtjnjedannpnjiaaDoor

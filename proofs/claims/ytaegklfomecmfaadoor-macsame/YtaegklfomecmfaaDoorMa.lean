/- awake's walk, given the contracts. -/
import Derived.Test.YtaegklfomecmfaaDoorMy
namespace Go.Proofs.YtaegklfomecmfaaDoor
open Go.RowKit

theorem Cel.alloc {w : World} {b : Nat} {c : Array Value} (h : Cel w b c) (o : Obj) : Cel (w.alloc o) b c := h.low ((Below.refl _ w).alloc (Nat.le_refl _) o)
theorem wpList_conv_abs {w : World} {ops : Array Oper} {rest : List Oper} {o : Oper} {a : Act} {Q : Exit → Act → World → Prop} (hw : Region.wanted o (yielded ops a.tmps) = true) (x : Operand) (ho : o.op = .convert 22 22 x) {b n c : Nat} {C : Array Value} (hx : a.eval x = .slice (some ⟨b, 0, none⟩) n c) (h : Cel w b C)
    (hk : ∀ w', (∀ b' C', Cel w b' C' → Cel w' b' C') → (∀ B a, Below B a w → B ≤ b → Below B a w') → wpList Tryd.prog ops Q rest (a.put o.dst (.slice (some ⟨b, 0, none⟩) n c)) w') : wpList Tryd.prog ops Q (o :: rest) a w :=
  wpList_want hw fun _ hK => wp_conv22 x ho hx h (hK _ _ (hk _ (fun _ _ hc => hc.freeze _) (fun _ _ hb hB => Below.freeze hb hB)))
theorem lit_get (l : List Nat) (i x : Nat) (h : l[i]? = some x) : (l.map fun x => Value.int .u8 (x : Nat)).toArray[i]? = some (.int .u8 (x : Nat)) := by simp [h]
theorem rds_lits {w : World} {b : Nat} (l : List Nat) {c : Array Value} (h : Cel w b c) (hc : c = (l.map fun x => Value.int .u8 (x : Nat)).toArray) : Rds w (some ⟨b, 0, none⟩) l := rds_cel h l fun i x hx => by rw [hc]; exact lit_get l i x hx
theorem mac_jefe (f : Nat → Nat) (h0 : SumOk) (hf : f = mc jefe (what ++ nothing)) (b1 b2 b3 b : Nat) (t : TypeId) (args : Array Value) (w : World) (h : args = #[.slice (some ⟨b1, 0, none⟩) 4 4, .slice (some ⟨b, 0, none⟩) 2 2]) (hB : Blk w b #[.slice (some ⟨b2, 0, none⟩) 16 16, .slice (some ⟨b3, 0, none⟩) 12 12] t) (hG : Glob w)
    (h1 : Cel w b1 #[.int .u8 74, .int .u8 101, .int .u8 102, .int .u8 101]) (h2 : Cel w b2 #[.int .u8 119, .int .u8 104, .int .u8 97, .int .u8 116, .int .u8 32, .int .u8 100, .int .u8 111, .int .u8 32, .int .u8 121, .int .u8 97, .int .u8 32, .int .u8 119, .int .u8 97, .int .u8 110, .int .u8 116, .int .u8 32]) (h3 : Cel w b3 #[.int .u8 102, .int .u8 111, .int .u8 114, .int .u8 32, .int .u8 110, .int .u8 111, .int .u8 116, .int .u8 104, .int .u8 105, .int .u8 110, .int .u8 103, .int .u8 63]) :
    Calls Tryd.prog 9 args w fun e w' => e = .returned (.agg (vals .u8 64 f)) ∧ Below w.heap.size w w' := by
  have e : cat [(some ⟨b2, 0, none⟩, what, 16), (some ⟨b3, 0, none⟩, nothing, 12)] = what ++ nothing := by simp [cat]
  have := h0 (some ⟨b1, 0, none⟩) jefe 4 (some ⟨b, 0, none⟩) [(some ⟨b2, 0, none⟩, what, 16), (some ⟨b3, 0, none⟩, nothing, 12)] 2 args w h hG (rds_lits jefe h1 rfl) (by decide) jefe_lt (prt_blk hB _ fun i q hq => by
    rcases i with _ | _ | i
    · obtain rfl := Option.some.inj hq; rfl
    · obtain rfl := Option.some.inj hq; rfl
    · cases hq) (fun q hq => by
    rcases List.mem_cons.1 hq with rfl | hq
    · exact ⟨rds_lits what h2 rfl, show what.length ≤ 16 by decide, what_lt⟩
    · rcases List.mem_cons.1 hq with rfl | hq
      · exact ⟨rds_lits nothing h3 rfl, show nothing.length ≤ 12 by decide, nothing_lt⟩
      · cases hq) (by decide) (by rw [e]; decide) (by simp)
  rw [e, ← hf] at this
  exact this
theorem same_lit (h0 : SameOk) (k l : List Nat) (r : Bool) (b1 b2 : Nat) (args : Array Value) (w : World) (h : args = #[.slice (some ⟨b1, 0, none⟩) k.length k.length, .slice (some ⟨b2, 0, none⟩) l.length l.length]) {c1 c2 : Array Value} (h1 : Cel w b1 c1) (h2 : Cel w b2 c2) (hk : ∀ x ∈ k, x < 256) (hl : ∀ x ∈ l, x < 256) (hr : decide (k = l) = r)
    (e1 : c1 = (k.map fun x => Value.int .u8 (x : Nat)).toArray := by rfl) (e2 : c2 = (l.map fun x => Value.int .u8 (x : Nat)).toArray := by rfl) (hs : k.length < 2 ^ 62 := by decide) :
    Calls Tryd.prog 11 args w fun e w' => e = .returned (.bool r) ∧ Below w.heap.size w w' := by
  rw [← hr]; exact h0 _ k _ _ l _ args w h (rds_lits k h1 e1) (Nat.le_refl _) hk (rds_lits l h2 e2) (Nat.le_refl _) hl hs
set_option maxRecDepth 100000 in
set_option maxHeartbeats 4000000 in
theorem mawake_of (h0 : SumOk) (h2 : SameOk) : AwakeOk := by
  intro args w hargs hG
  subst hargs
  have H0 := hide h0
  have H2 := hide h2
  have HG := hide hG
  clear h0 h2 hG
  obtain ⟨f, hf⟩ : ∃ f, f = mc jefe (what ++ nothing) := ⟨_, rfl⟩
  have Hf := hide hf
  clear hf
  have L0 := hide (Below.refl w.heap.size w)
  have hz := zero24
  go_enter Tryd.func8, Tryd.ntmps8
  go_upto_region 2 with (first
    | (refine wpList_conv_abs (by rfl) _ rfl rfl (Blk.new w _ _).cel ?_; intro k1 fC lC; have c1_1 := hide (fC _ _ (Blk.new w _ _).cel); have L1 := hide (lC _ _ (L0.out.alloc L0.out.size _) L0.out.size); clear fC lC L0)
    | (refine wpList_conv_abs (by rfl) _ rfl rfl (Blk.new k1 _ _).cel ?_; intro k2 fC lC; have c2_2 := hide (fC _ _ (Blk.new k1 _ _).cel); have c1_2 := hide (fC _ _ (c1_1.out.alloc _)); have L2 := hide (lC _ _ (L1.out.alloc L1.out.size _) L1.out.size); clear fC lC L1 c1_1)
    | (refine wpList_conv_abs (by rfl) _ rfl rfl (Blk.new k2 _ _).cel ?_; intro k3 fC lC; have c3_3 := hide (fC _ _ (Blk.new k2 _ _).cel); have c1_3 := hide (fC _ _ (c1_2.out.alloc _)); have c2_3 := hide (fC _ _ (c2_2.out.alloc _)); have L3 := hide (lC _ _ (L2.out.alloc L2.out.size _) L2.out.size); clear fC lC L2 c1_2 c2_2)
    | (go_at_call 9; refine (mac_jefe f H0.out Hf.out (w.heap.size) (k1.heap.size) (k2.heap.size) k3.heap.size 22 _ _ rfl (Blk.new k3 _ _) (HG.out.low (L3.out.alloc L3.out.size _)) (c1_3.out.alloc _) (c2_3.out.alloc _) (c3_3.out.alloc _)).mono ?_; rintro e k4 ⟨rfl, hb⟩; have c1_4 := hide (Cel.low (c1_3.out.alloc _) hb); have c2_4 := hide (Cel.low (c2_3.out.alloc _) hb); have c3_4 := hide (Cel.low (c3_3.out.alloc _) hb); have L4 := hide (keepLow2 (L3.out.alloc L3.out.size _) hb); clear hb L3 c1_3 c2_3 c3_3; dsimp only)
    | (refine wpList_store_abs rfl 24 _ _ rfl k4.heap.size (vals .u8 64 f) rfl rfl 24 _ (Blk.new k4 _ _) (by rw [vals_size]; exact cells24) (by simp only [vals_size]) (vals_one _ _ _) ?_; intro kd Bn Sn; have D := hide Bn; have Ld := hide (Sn.low _ _ (L4.out.alloc L4.out.size _) L4.out.size); clear Bn Sn L4 c1_4 c2_4 c3_4))
  clear hz
  have d0 := D.out.cell 0
  rw [vals_get _ _ _ _ (by omega), Hf.out, mc_jefe.1] at d0
  have d1 := D.out.cell 1
  rw [vals_get _ _ _ _ (by omega), Hf.out, mc_jefe.2.1] at d1
  have d2 := D.out.cell 2
  rw [vals_get _ _ _ _ (by omega), Hf.out, mc_jefe.2.2.1] at d2
  have d3 := D.out.cell 3
  rw [vals_get _ _ _ _ (by omega), Hf.out, mc_jefe.2.2.2] at d3
  clear D Hf H0
  go_wp2_with (first
    | (refine wpList_conv_abs (by rfl) _ rfl rfl (Blk.new kd _ _).cel ?_; intro k11 fC lC; have c11_11 := hide (fC _ _ (Blk.new kd _ _).cel); have L11 := hide (lC _ _ (Ld.out.alloc Ld.out.size _) Ld.out.size); clear fC lC Ld)
    | (refine wpList_conv_abs (by rfl) _ rfl rfl (Blk.new k11 _ _).cel ?_; intro k12 fC lC; have c12_12 := hide (fC _ _ (Blk.new k11 _ _).cel); have c11_12 := hide (fC _ _ (c11_11.out.alloc _)); have L12 := hide (lC _ _ (L11.out.alloc L11.out.size _) L11.out.size); clear fC lC L11 c11_11)
    | (go_at_call 11; refine (same_lit H2.out [97, 98] [97, 98] true (kd.heap.size) (k11.heap.size) _ _ rfl c11_12.out c12_12.out (by decide) (by decide) (by decide)).mono ?_; rintro e k13 ⟨rfl, hb⟩; have c11_13 := hide (Cel.low c11_12.out hb); have c12_13 := hide (Cel.low c12_12.out hb); have L13 := hide (keepLow2 L12.out hb); clear hb L12 c11_12 c12_12; dsimp only)
    | (refine wpList_conv_abs (by rfl) _ rfl rfl (Blk.new k13 _ _).cel ?_; intro k14 fC lC; have c14_14 := hide (fC _ _ (Blk.new k13 _ _).cel); have L14 := hide (lC _ _ (L13.out.alloc L13.out.size _) L13.out.size); clear fC lC L13)
    | (refine wpList_conv_abs (by rfl) _ rfl rfl (Blk.new k14 _ _).cel ?_; intro k15 fC lC; have c15_15 := hide (fC _ _ (Blk.new k14 _ _).cel); have c14_15 := hide (fC _ _ (c14_14.out.alloc _)); have L15 := hide (lC _ _ (L14.out.alloc L14.out.size _) L14.out.size); clear fC lC L14 c14_14)
    | (go_at_call 11; refine (same_lit H2.out [97, 98] [97, 98, 99] false (k13.heap.size) (k14.heap.size) _ _ rfl c14_15.out c15_15.out (by decide) (by decide) (by decide)).mono ?_; rintro e k16 ⟨rfl, hb⟩; have c14_16 := hide (Cel.low c14_15.out hb); have c15_16 := hide (Cel.low c15_15.out hb); have L16 := hide (keepLow2 L15.out hb); clear hb L15 c14_15 c15_15; dsimp only))
  go_ret
  exact ⟨rfl, L16.out⟩
end Go.Proofs.YtaegklfomecmfaaDoor

/- Walks of chapter 5: Extract, the closure of Expand, the reference's Extract. -/
import Derived.Test.YtjnjedannpnjiaaDoorMy
import Derived.Test.YtjnjedannpnjiaaDoorHx
import Derived.Test.YtjnjedannpnjiaaDoorKa
namespace Go.Proofs.YtjnjedannpnjiaaDoor
open Go.RowKit

theorem mac_three (f : Nat → Nat) (h0 : SumOk) (A B C : Option Addr) (k a u : List Nat) (c : Nat) (hf : f = mc k (a ++ (u ++ [c]))) (ca cb cc bc b : Nat) (t t2 : TypeId) (args : Array Value) (w : World) (h : args = #[.slice A k.length ca, .slice (some ⟨b, 0, none⟩) 3 3]) (hB : Blk w b #[.slice B a.length cb, .slice C u.length cc, .slice (some ⟨bc, 0, none⟩) 1 1] t) (hC : Blk w bc #[.int .u8 c] t2) (hG : Glob w) (hA : Rds w A k) (hca : k.length ≤ ca) (hk : ∀ x ∈ k, x < 256) (hRB : Rds w B a) (hcb : a.length ≤ cb) (ha : ∀ x ∈ a, x < 256) (hRC : Rds w C u) (hcc : u.length ≤ cc) (hu : ∀ x ∈ u, x < 256) (hc : c < 256) (hs : k.length < 2 ^ 29) (hs2 : a.length + u.length < 2 ^ 28) :
    Calls Tryd.prog 14 args w fun e w' => e = .returned (.agg (vals .u8 64 f)) ∧ Below w.heap.size w w' := by
  have e : cat [(B, a, cb), (C, u, cc), (some ⟨bc, 0, none⟩, [c], 1)] = a ++ (u ++ [c]) := by simp [cat]
  have := h0 A k ca (some ⟨b, 0, none⟩) [(B, a, cb), (C, u, cc), (some ⟨bc, 0, none⟩, [c], 1)] 3 args w h hG hA hca hk (prt_blk hB _ fun i q hq => by
    rcases i with _ | _ | _ | i
    · obtain rfl := Option.some.inj hq; rfl
    · obtain rfl := Option.some.inj hq; rfl
    · obtain rfl := Option.some.inj hq; rfl
    · cases hq) (fun q hq => by
    rcases List.mem_cons.1 hq with rfl | hq
    · exact ⟨hRB, hcb, ha⟩
    · rcases List.mem_cons.1 hq with rfl | hq
      · exact ⟨hRC, hcc, hu⟩
      · obtain rfl : q = (some ⟨bc, 0, none⟩, [c], 1) := by simpa using hq
        refine ⟨rds_blk hC [c] fun i x hx => ?_, Nat.le_refl _, fun x hx => ?_⟩
        · rcases i with _ | i
          · obtain rfl := Option.some.inj hx; rfl
          · cases hx
        · obtain rfl : x = c := by simpa using hx
          exact hc) hs (by rw [e, List.length_append, List.length_append]; simp; omega) (by simp)
  rw [e, ← hf] at this
  exact this
set_option maxRecDepth 100000 in
set_option maxHeartbeats 1000000 in
theorem ext_at (f : Nat → Nat) (h0 : SumOk) (A B : Option Addr) (k l : List Nat) (hf : f = mc k l) (ca cb : Nat) (args : Array Value) (w : World) (h : args = #[.slice A k.length ca, .slice B l.length cb]) (hG : Glob w) (hA : Rds w A k) (hc : k.length ≤ ca) (hk : ∀ x ∈ k, x < 256) (hA2 : Rds w B l) (hc2 : l.length ≤ cb) (hl : ∀ x ∈ l, x < 256) (hs : k.length < 2 ^ 29) (hs2 : l.length < 2 ^ 29) :
    Calls Tryd.prog 12 args w fun e w' => e = .returned (.agg (vals .u8 64 f)) ∧ Below w.heap.size w w' := by
  subst h
  have H0 := hide h0
  have Hf := hide hf
  have HG := hide hG
  have HA := hide hA
  have Hca := hide hc
  have Hk := hide hk
  have HB := hide hA2
  have Hcb := hide hc2
  have Hl := hide hl
  have Hs := hide hs
  have Hs2 := hide hs2
  clear h0 hf hG hA hc hk hA2 hc2 hl hs hs2
  have hz := zero24
  have B0 := hide ((Blk.new w (vals .u8 64 (fun _ => 0)) 27).alloc (.cells #[.slice B l.length cb] 23))
  have L0 := hide (((Below.refl w.heap.size w).alloc (Nat.le_refl _) (.cells (vals .u8 64 (fun _ => 0)) 27)).alloc (by simp) (.cells #[.slice B l.length cb] 23))
  go_enter Tryd.func12, Tryd.ntmps12
  go_wp2_with (first
    | (go_at_call 14; refine (mac_onef f H0.out A B k l Hf.out ca cb (w.heap.size + 1) 23 _ _ rfl (Blk.new' _ (w.heap.size + 1) (by simp) _ _) (HG.out.low L0.out) (HA.out.low L0.out) Hca.out Hk.out (HB.out.low L0.out) Hcb.out Hl.out Hs.out Hs2.out).mono ?_; rintro e k1 ⟨rfl, hb⟩; have Bz := hide (B0.out.call hb); have L2 := hide (keepLow2 L0.out hb); clear hb L0 B0; dsimp only)
    | (refine wpList_store_row rfl 27 _ _ rfl w.heap.size (vals .u8 64 f) rfl rfl 27 _ Bz.out (by rw [vals_size]; exact cells24) (by rw [vals_size, vals_size]) (vals_one _ _ _) ?_))
  refine bodyPost_ret (v := .agg (vals .u8 64 f)) (results_cell_row Tryd.results12 _ _ w.heap.size 27 _ (0, 0) _ rfl (Bz.out.row _) Tryd.underlying27 rfl (by rw [vals_size]; exact cells24)) rfl ⟨rfl, Below.row L2.out (Nat.le_refl _) _⟩
set_option maxRecDepth 100000 in
set_option maxHeartbeats 1000000 in
theorem rext_at (f : Nat → Nat) (A B : Option Addr) (k l : List Nat) (hf : f = mc k l) (ca cb : Nat) (args : Array Value) (w : World) (h : args = #[.slice A k.length ca, .slice B l.length cb]) (hA : Rds w A k) (hc : k.length ≤ ca) (hk : ∀ x ∈ k, x < 256) (hA2 : Rds w B l) (hc2 : l.length ≤ cb) (hl : ∀ x ∈ l, x < 256) (hs : k.length < 2 ^ 29) (hs2 : l.length < 2 ^ 29) :
    Calls Tryd.prog 13 args w fun e w' => e = .returned (.agg (vals .u8 64 f)) ∧ Below w.heap.size w w' := by
  subst h
  have Hf := hide hf
  have HA := hide hA
  have Hca := hide hc
  have Hk := hide hk
  have HB := hide hA2
  have Hcb := hide hc2
  have Hl := hide hl
  have Hs := hide hs
  have Hs2 := hide hs2
  clear hf hA hc hk hA2 hc2 hl hs hs2
  have hz := zero24
  have B0 := hide (Blk.new w (vals .u8 64 (fun _ => 0)) 27)
  have L0 := hide ((Below.refl w.heap.size w).alloc (Nat.le_refl _) (.cells (vals .u8 64 (fun _ => 0)) 27))
  go_enter Tryd.func13, Tryd.ntmps13
  go_wp2_with (first
    | (go_at_call 16; refine (rmac_f f A B k l Hf.out ca cb _ _ rfl (HA.out.low L0.out) Hca.out Hk.out Hs.out (HB.out.low L0.out) Hcb.out Hl.out Hs2.out).mono ?_; rintro e k1 ⟨rfl, hb⟩; have Bz := hide (B0.out.call hb); have L2 := hide (keepLow2 L0.out hb); clear hb L0 B0; dsimp only)
    | (refine wpList_store_row rfl 27 _ _ rfl w.heap.size (vals .u8 64 f) rfl rfl 27 _ Bz.out (by rw [vals_size]; exact cells24) (by rw [vals_size, vals_size]) (vals_one _ _ _) ?_))
  refine bodyPost_ret (v := .agg (vals .u8 64 f)) (results_cell_row Tryd.results13 _ _ w.heap.size 27 _ (0, 0) _ rfl (Bz.out.row _) Tryd.underlying27 rfl (by rw [vals_size]; exact cells24)) rfl ⟨rfl, Below.row L2.out (Nat.le_refl _) _⟩
set_option maxRecDepth 100000 in
set_option maxHeartbeats 1000000 in
/-- The closure: a block's code. -/
theorem asked_at (f : Nat → Nat) (h0 : SumOk) (A B C : Option Addr) (k a u : List Nat) (c : Nat) (hf : f = mc k (a ++ (u ++ [c]))) (ca cb cc bk bu : Nat) (args : Array Value) (w : World) (h : args = #[.slice B a.length cb, .int .u8 c, .pointer (some ⟨bk, 0, none⟩), .pointer (some ⟨bu, 0, none⟩)]) (hK : Blk w bk #[.slice A k.length ca] 23) (hU : Blk w bu #[.slice C u.length cc] 23) (hG : Glob w) (hA : Rds w A k) (hca : k.length ≤ ca) (hk : ∀ x ∈ k, x < 256) (hRB : Rds w B a) (hcb : a.length ≤ cb) (ha : ∀ x ∈ a, x < 256) (hRC : Rds w C u) (hcc : u.length ≤ cc) (hu : ∀ x ∈ u, x < 256) (hc : c < 256) (hs : k.length < 2 ^ 29) (hs2 : a.length + u.length < 2 ^ 28) :
    Calls Tryd.prog 15 args w fun e w' => e = .returned (.agg (vals .u8 64 f)) ∧ Below w.heap.size w w' := by
  subst h
  have ck := (hK.alloc (.cells (vals .u8 64 (fun _ => 0)) 27)).cell 0
  have cu := (hU.alloc (.cells (vals .u8 64 (fun _ => 0)) 27)).cell 0
  have H0 := hide h0
  have Hf := hide hf
  have HG := hide hG
  have HA := hide hA
  have Hca := hide hca
  have Hk := hide hk
  have HB := hide hRB
  have Hcb := hide hcb
  have Ha := hide ha
  have HC := hide hRC
  have Hcc := hide hcc
  have Hu := hide hu
  have Hc := hide hc
  have Hs := hide hs
  have Hs2 := hide hs2
  clear h0 hf hG hA hca hk hRB hcb ha hRC hcc hu hc hs hs2 hK hU
  have hz := zero24
  have B0 := hide (((Blk.new w (vals .u8 64 (fun _ => 0)) 27).alloc (.cells #[.int .u8 c] 5)).alloc (.cells #[.slice B a.length cb, .slice C u.length cc, .slice (some ⟨w.heap.size + 1, 0, none⟩) 1 1] 23))
  have B1 := hide ((Blk.new' (w.alloc (.cells (vals .u8 64 (fun _ => 0)) 27)) (w.heap.size + 1) (by simp) #[.int .u8 c] 5).alloc (.cells #[.slice B a.length cb, .slice C u.length cc, .slice (some ⟨w.heap.size + 1, 0, none⟩) 1 1] 23))
  have L0 := hide ((((Below.refl w.heap.size w).alloc (Nat.le_refl _) (.cells (vals .u8 64 (fun _ => 0)) 27)).alloc (by simp) (.cells #[.int .u8 c] 5)).alloc (by simp; omega) (.cells #[.slice B a.length cb, .slice C u.length cc, .slice (some ⟨w.heap.size + 1, 0, none⟩) 1 1] 23))
  go_enter Tryd.func15, Tryd.ntmps15
  go_wp2_with (first
    | (go_at_call 14; refine (mac_three f H0.out A B C k a u c Hf.out ca cb cc (w.heap.size + 1) (w.heap.size + 2) 23 5 _ _ rfl (Blk.new' _ (w.heap.size + 2) (by simp) _ _) B1.out (HG.out.low L0.out) (HA.out.low L0.out) Hca.out Hk.out (HB.out.low L0.out) Hcb.out Ha.out (HC.out.low L0.out) Hcc.out Hu.out Hc.out Hs.out Hs2.out).mono ?_; rintro e k1 ⟨rfl, hb⟩; have Bz := hide (B0.out.call hb); have L2 := hide (keepLow2 L0.out hb); clear hb L0 B0; dsimp only)
    | (refine wpList_store_row rfl 27 _ _ rfl w.heap.size (vals .u8 64 f) rfl rfl 27 _ Bz.out (by rw [vals_size]; exact cells24) (by rw [vals_size, vals_size]) (vals_one _ _ _) ?_))
  refine bodyPost_ret (v := .agg (vals .u8 64 f)) (results_cell_row Tryd.results15 _ _ w.heap.size 27 _ (0, 0) _ rfl (Bz.out.row _) Tryd.underlying27 rfl (by rw [vals_size]; exact cells24)) rfl ⟨rfl, Below.row L2.out (Nat.le_refl _) _⟩
end Go.Proofs.YtjnjedannpnjiaaDoor

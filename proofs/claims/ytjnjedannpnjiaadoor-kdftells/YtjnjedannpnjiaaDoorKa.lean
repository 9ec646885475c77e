/- Walks: keyBlock. -/
import Derived.Test.YtjnjedannpnjiaaDoorRs
import Derived.Laws.IdiomCopy
namespace Go.Proofs.YtjnjedannpnjiaaDoor
open Go.RowKit

theorem Blk.low {w w' : World} {b : Nat} {c : Array Value} {t : TypeId} (h : Blk w b c t) (hb : Below w.heap.size w w') : Blk w' b c t := h.call hb
theorem zero35 (w : World) : (zeroValue 37).run Tryd.prog w = .ok (.agg (vals .u8 128 (fun _ => 0))) w := by kernel_rfl
/-- A byte of the key's block. -/
def kz (k : List Nat) (i : Nat) : Nat := (ky k).getD i 0
theorem copy_ar (w : World) (N : Nat) (A : Option Addr) (l : List Nat) (cap : Nat) (B : Blk w N (vals .u8 128 (fun _ => 0)) 37) (hl : l.length ≤ 128) (hA : Rds w A l) (ty : TypeId) :
    (Builtin.copy_ #[23, 23] ty #[.slice (some ⟨N, 0, none⟩) 128 128, .slice A l.length cap]).run Tryd.prog w = .ok (.int .i64 l.length) (w.setRow N (vals .u8 128 (fun i => l.getD i 0))) := by
  rcases hA with rfl | ⟨a, rfl, hlt, hc⟩
  · rw [run_copy_none (P := Tryd.prog) w 23 23 ty 5 _ _ _ _ _ _ Tryd.underlying23 (by kernel_rfl) (by simp)]
    have e : vals .u8 128 (fun i => ([] : List Nat).getD i 0) = vals .u8 128 (fun _ => 0) := vals_congr _ _ _ _ fun j _ => by simp
    rw [e, setRow_self w N _ 37 (0, 0) B]
    rfl
  · have hlen : (l.map fun x => Value.int .u8 (x : Nat)).length = l.length := by simp
    have h := run_copy_row (P := Tryd.prog) w 23 23 ty 5 N 0 128 128 a l.length cap (vals .u8 128 (fun _ => 0)) 37 (l.map fun x => Value.int .u8 (x : Nat)) Tryd.underlying23 (by kernel_rfl) B (by rw [hlen]; simp only [Nat.min_def]; split <;> omega) (fun j v hv => by
      rw [List.getElem?_map] at hv
      cases hx : l[j]? with
      | none => rw [hx] at hv; cases hv
      | some x =>
        rw [hx] at hv
        obtain rfl := Option.some.inj hv
        exact hc j x hx) (by rw [hlen, vals_size]; omega) (fun v hv => mem_map_one _ v hv)
    rw [h, hlen]
    have e : ((vals .u8 128 (fun _ => 0)).toList.take 0 ++ l.map (fun x => Value.int .u8 (x : Nat)) ++ (vals .u8 128 (fun _ => 0)).toList.drop (0 + l.length)).toArray = vals .u8 128 (fun i => l.getD i 0) := by
      apply Array.ext_getElem?
      intro i
      have e1 : (vals .u8 128 (fun _ => 0)).toList.length = 128 := by rw [Array.length_toList, vals_size]
      have hs := splice_get (vals .u8 128 (fun _ => 0)).toList (l.map fun x => Value.int .u8 (x : Nat)) 0 i (by rw [hlen, e1]; omega)
      rw [hlen] at hs
      rw [List.getElem?_toArray, hs]
      by_cases h1 : i < l.length
      · rw [if_pos (by omega), vals_get _ _ _ _ (by omega), List.getElem?_map, Nat.sub_zero, List.getD_eq_getElem?_getD, List.getElem?_eq_getElem h1]
        rfl
      · rw [if_neg (by omega), Array.getElem?_toList]
        by_cases h2 : i < 128
        · rw [vals_get _ _ _ _ h2, vals_get _ _ _ _ h2, List.getD_eq_getElem?_getD, List.getElem?_eq_none (by omega)]
          rfl
        · rw [Array.getElem?_eq_none (by rw [vals_size]; omega), Array.getElem?_eq_none (by rw [vals_size]; omega)]
    rw [e]
    rfl
set_option maxRecDepth 100000 in
set_option maxHeartbeats 1000000 in
theorem keyBlock_any (A : Option Addr) (k : List Nat) (cap : Nat) (w : World) (hG : Glob w) (hA : Rds w A k) (hcap : k.length ≤ cap) (hk : ∀ x ∈ k, x < 256) (hn : k.length < 2 ^ 30) :
    Calls Tryd.prog 17 #[.slice A k.length cap] w fun e w' => e = .returned (.agg (vals .u8 128 (kz k))) ∧ Below w.heap.size w w' := by
  have HG := hide hG
  have HA := hide hA
  have Hcap := hide hcap
  have Hk := hide hk
  have Hn := hide hn
  clear hG hA hcap hk hn
  have hz := zero35
  go_enter Tryd.func17, Tryd.ntmps17
  go_upto_if 7 with (fail)
  have B0 := hide ((Blk.new w (vals .u8 128 (fun _ => 0)) 37).alloc (.cells (vals .u8 128 (fun _ => 0)) 37))
  have B1 := hide (Blk.new' (w.alloc (.cells (vals .u8 128 (fun _ => 0)) 37)) (w.heap.size + 1) (by simp) (vals .u8 128 (fun _ => 0)) 37)
  have L0 := hide (((Below.refl _ w).alloc (Nat.le_refl _) (.cells (vals .u8 128 (fun _ => 0)) 37)).alloc (by simp) (.cells (vals .u8 128 (fun _ => 0)) 37))
  clear hz
  generalize (w.alloc (.cells (vals .u8 128 (fun _ => 0)) 37)).alloc (.cells (vals .u8 128 (fun _ => 0)) 37) = w1 at *
  go_cut [0] (fun s wc => ∃ A' cap', s = .slice A' (ky k).length cap' ∧ Rds wc A' (ky k) ∧ Blk wc w.heap.size (vals .u8 128 (fun _ => 0)) 37 ∧ Blk wc (w.heap.size + 1) (vals .u8 128 (fun _ => 0)) 37 ∧ Below w.heap.size w wc)
  case first =>
    by_cases hlen : 128 < k.length
    · have hi : (128 : Int) < (k.length : Int) := by omega
      have Hlen := hide hlen
      clear hlen
      have hz := zero24
      go_wp2_with (first
        | (go_at_call 22; refine (all_one A k cap w1.heap.size 23 _ _ rfl (Blk.new w1 _ _) (HG.out.low (L0.out.alloc L0.out.size _)) (HA.out.low (L0.out.alloc L0.out.size _)) Hcap.out Hk.out (by have := Hn.out; omega)).mono ?_; rintro e k11 ⟨rfl, hb⟩; have Y_11 := hide ((B0.out.alloc _).call hb); have Z_11 := hide ((B1.out.alloc _).call hb); have L_11 := hide (keepLow2 (L0.out.alloc L0.out.size _) hb); clear hb B0 B1 L0; dsimp only)
        | (refine wpList_store_abs rfl 27 _ _ rfl k11.heap.size (vals .u8 64 (dg k)) rfl rfl 27 _ (Blk.new k11 _ _) (by rw [vals_size]; exact cells24) (by simp only [vals_size]) (vals_one _ _ _) ?_; intro k12 Bn Sn; have Y_12 := hide (Sn.other _ _ _ (Nat.ne_of_gt Y_11.out.lt) (Y_11.out.alloc _)); have Z_12 := hide (Sn.other _ _ _ (Nat.ne_of_gt Z_11.out.lt) (Z_11.out.alloc _)); have L_12 := hide (Sn.low _ _ (L_11.out.alloc L_11.out.size _) L_11.out.size); have D_12 := hide Bn; clear Bn Sn Y_11 Z_11 L_11))
      go_meet
      have e : ky k = dl k := if_pos Hlen.out
      exact ⟨some ⟨_, 0, none⟩, 64, by rw [e, dl_len], by rw [e]; exact rds_vals D_12.out, Y_12.out, Z_12.out, L_12.out⟩
    · have hi : ¬ (128 : Int) < (k.length : Int) := by omega
      have Hlen := hide hlen
      clear hlen
      go_wp2
      go_meet
      have e : ky k = k := if_neg Hlen.out
      exact ⟨A, cap, by rw [e], by rw [e]; exact HA.out.low L0.out, B0.out, B1.out, L0.out⟩
  case rest =>
    obtain ⟨A', cap', rfl, hA', b0, b1, hb'⟩ := hcut
    clear B0 B1 L0 HA Hcap HG Hk Hn
    have hcp := copy_ar wc (w.heap.size + 1) A' (ky k) cap' b1 (ky_le k) hA'
    have C1 := hide (b1.row (vals .u8 128 (fun i => (ky k).getD i 0)))
    have C0 := hide (b0.rowOther (b' := w.heap.size + 1) (vals .u8 128 (fun i => (ky k).getD i 0)) (by omega))
    have L1 := hide (Below.row hb' (Nat.le_succ _) (vals .u8 128 (fun i => (ky k).getD i 0)))
    clear b0 b1 hb' hA'
    obtain ⟨g, hg⟩ : ∃ g, g = fun i => (ky k).getD i 0 := ⟨_, rfl⟩
    rw [← hg] at C1 C0 L1 hcp
    have Hg := hide hg
    clear hg
    go_wp2_with (first
      | (refine wpList_load_row rfl 37 _ rfl (w.heap.size + 1) rfl 37 _ (0, 0) _ C1.out Tryd.underlying37 rfl (by rw [vals_size]; exact cells29) ?_)
      | (refine wpList_store_row rfl 37 _ _ rfl w.heap.size (vals .u8 128 g) rfl rfl 37 _ C0.out (by rw [vals_size]; exact cells29) (by rw [vals_size, vals_size]) (vals_one _ _ _) ?_))
    refine bodyPost_ret (v := .agg (vals .u8 128 g)) (results_cell_row Tryd.results17 _ _ w.heap.size 37 _ (0, 0) _ rfl (C0.out.row _) Tryd.underlying37 rfl (by rw [vals_size]; exact cells29)) rfl ⟨by rw [Hg.out]; rfl, ?_⟩
    exact Below.row L1.out (Nat.le_refl _) _
theorem keyBlock_at (A : Option Addr) (k : List Nat) (cap : Nat) (args : Array Value) (w : World) (h : args = #[.slice A k.length cap]) (hG : Glob w) (hA : Rds w A k) (hcap : k.length ≤ cap) (hk : ∀ x ∈ k, x < 256) (hn : k.length < 2 ^ 30) :
    Calls Tryd.prog 17 args w fun e w' => e = .returned (.agg (vals .u8 128 (kz k))) ∧ Below w.heap.size w w' := by
  subst h; exact keyBlock_any A k cap w hG hA hcap hk hn
end Go.Proofs.YtjnjedannpnjiaaDoor

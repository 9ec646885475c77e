/- The reference of chapter 4: block, Sum; and HMAC on lists of numbers. -/
import Derived.Test.YtjnjedannpnjiaaDoorRd
import Derived.Deep.DeepCutAuto
namespace Go.Proofs.YtjnjedannpnjiaaDoor
open Go.RowKit

/-- A digest's bytes, in a row. -/
def dl (l : List Nat) : List Nat := (List.range 64).map (dg l)
theorem dl_len (l : List Nat) : (dl l).length = 64 := by simp [dl]
theorem dl_get (l : List Nat) (i x : Nat) (h : (dl l)[i]? = some x) : i < 64 ∧ x = dg l i := by
  have hi := (List.getElem?_eq_some_iff.1 h).1
  rw [dl_len] at hi
  refine ⟨hi, ?_⟩
  unfold dl at h
  rw [List.getElem?_map, List.getElem?_range hi] at h
  exact (Option.some.inj h).symm
theorem dl_lt (l : List Nat) : ∀ x ∈ dl l, x < 256 := fun x hx => by
  obtain ⟨i, _, rfl⟩ := List.mem_map.1 hx
  exact dg_lt l i
/-- The key, or its digest. -/
def ky (k : List Nat) : List Nat := if 128 < k.length then dl k else k
theorem ky_le (k : List Nat) : (ky k).length ≤ 128 := by
  unfold ky; split
  · rw [dl_len]; omega
  · omega
theorem ky_lt (k : List Nat) (h : ∀ x ∈ k, x < 256) : ∀ x ∈ ky k, x < 256 := by
  unfold ky; split
  · exact dl_lt k
  · exact h
/-- A byte of the key's block, changed. -/
def kb (k : List Nat) (y i : Nat) : Nat := (ky k).getD i 0 ^^^ y
def kl (k : List Nat) (y : Nat) : List Nat := (List.range 128).map (kb k y)
theorem kl_len (k : List Nat) (y : Nat) : (kl k y).length = 128 := by simp [kl]
theorem getD_lt (l : List Nat) (h : ∀ x ∈ l, x < 256) (i : Nat) : l.getD i 0 < 256 := by
  rw [List.getD_eq_getElem?_getD]
  cases hx : l[i]? with
  | none => simp
  | some x => exact h x (List.mem_of_getElem? hx)
theorem kb_lt (k : List Nat) (y i : Nat) (h : ∀ x ∈ k, x < 256) (hy : y < 256) : kb k y i < 256 := Nat.xor_lt_two_pow (n := 8) (getD_lt _ (ky_lt k h) i) hy
theorem kl_lt (k : List Nat) (y : Nat) (h : ∀ x ∈ k, x < 256) (hy : y < 256) : ∀ x ∈ kl k y, x < 256 := fun x hx => by
  obtain ⟨i, _, rfl⟩ := List.mem_map.1 hx
  exact kb_lt k y i h hy
/-- The code. -/
def mc (k l : List Nat) : Nat → Nat := dg (kl k 92 ++ dl (kl k 54 ++ l))
theorem rds_vals {w : World} {b n : Nat} {t : TypeId} {f : Nat → Nat} (h : Blk w b (vals .u8 n f) t) : Rds w (some ⟨b, 0, none⟩) ((List.range n).map f) := rds_blk h _ fun i x hx => by
  have hi := (List.getElem?_eq_some_iff.1 hx).1
  simp at hi
  rw [List.getElem?_map, List.getElem?_range hi] at hx
  rw [vals_get _ _ _ _ hi, ← Option.some.inj hx]
theorem u8_xor (a b : Nat) (ha : a < 256) (hb : b < 256) : bits .xor .u8 (a : Int) (b : Int) = ((a ^^^ b : Nat) : Int) := u8_xor_nat a b ha hb
theorem make128 (w : World) : (Instr.makeSlice 23 (.int .i64 128) (.int .i64 128)).run Tryd.prog w = .ok (.slice (some ⟨w.heap.size, 0, none⟩) 128 128) (w.alloc (.cells (vals .u8 128 (fun _ => 0)) 5)) := by kernel_rfl
set_option maxRecDepth 100000 in
set_option maxHeartbeats 1000000 in
theorem rblock_any (A : Option Addr) (k : List Nat) (cap y : Nat) (w : World) (hA : Rds w A k) (hcap : k.length ≤ cap) (hk : ∀ x ∈ k, x < 256) (hn : k.length < 2 ^ 30) (hy : y < 256) :
    Calls Tryd.prog 21 #[.slice A k.length cap, .int .u8 y] w fun e w' => ∃ b, e = .returned (.slice (some ⟨b, 0, none⟩) 128 128) ∧ Below w.heap.size w w' ∧ w.heap.size ≤ b ∧ Blk w' b (vals .u8 128 (kb k y)) 5 := by
  have HA := hide hA
  have Hcap := hide hcap
  have Hk := hide hk
  have Hn := hide hn
  have Hy := hide hy
  clear hA hcap hk hn hy
  go_enter Tryd.func21, Tryd.ntmps21
  go_upto_if 11 with (fail)
  go_cut [0] (fun s wc => ∃ A' cap', s = .slice A' (ky k).length cap' ∧ Rds wc A' (ky k) ∧ Below w.heap.size w wc)
  case first =>
    by_cases hlen : 128 < k.length
    · have hi : (128 : Int) < (k.length : Int) := by omega
      have Hlen := hide hlen
      clear hlen
      have hz := zero24
      go_wp2_with (first
        | (go_at_call 20; refine (rSum_at A k cap _ _ rfl HA.out Hcap.out Hk.out Hn.out).mono ?_; rintro e k1 ⟨rfl, hb⟩; have L1 := hide hb; have B1 := hide (Blk.new k1 (vals .u8 64 (fun _ => 0)) 27); have L2 := hide (L1.out.alloc L1.out.size (.cells (vals .u8 64 (fun _ => 0)) 27)); clear hb; dsimp only)
        | (refine wpList_store_row rfl 27 _ _ rfl k1.heap.size (vals .u8 64 (dg k)) rfl rfl 27 _ B1.out (by rw [vals_size]; exact cells24) (by rw [vals_size, vals_size]) (vals_one _ _ _) ?_))
      go_meet
      have e : ky k = dl k := if_pos Hlen.out
      exact ⟨some ⟨k1.heap.size, 0, none⟩, 64, by rw [e, dl_len], by rw [e]; exact rds_vals (B1.out.row _), Below.row L2.out L1.out.size _⟩
    · have hi : ¬ (128 : Int) < (k.length : Int) := by omega
      have Hlen := hide hlen
      clear hlen
      go_wp2
      go_meet
      have e : ky k = k := if_neg Hlen.out
      exact ⟨A, cap, by rw [e], by rw [e]; exact HA.out, Below.refl _ _⟩
  case rest =>
    obtain ⟨A', cap', rfl, hA', hb'⟩ := hcut
    have HA' := hide hA'
    have HL := hide hb'
    clear hA' hb' HA Hcap Hn
    have Hle := hide (ky_le k)
    have Hlt := hide (ky_lt k Hk.out)
    obtain ⟨q, hq⟩ : ∃ q, q = ky k := ⟨_, rfl⟩
    rw [← hq] at HA' Hle Hlt ⊢
    have Hq := hide hq
    clear hq
    have hmk := make128
    have B0 := hide (Blk.new wc (vals .u8 128 (fun _ => 0)) 5)
    have L0 := hide ((Below.refl wc.heap.size wc).alloc (Nat.le_refl _) (.cells (vals .u8 128 (fun _ => 0)) 5))
    go_wp2
    clear hmk
    generalize wc.alloc (.cells (vals .u8 128 (fun _ => 0)) 5) = w1 at *
    go_loopw [7] (fun i wr => ∃ j : Nat, j ≤ q.length ∧ i = .int .i64 j ∧ Blk wr wc.heap.size (vals .u8 128 (fun t => if t < j then q.getD t 0 else 0)) 5 ∧ Below wc.heap.size wc wr) (fun i _ => q.length - (intOf i).toNat)
    case atStart => exact ⟨0, Nat.zero_le _, rfl, B0.out.cast (vals_congr _ _ _ _ fun j _ => by simp), L0.out⟩
    case round =>
      clear B0 L0
      obtain ⟨j, hj, rfl, B, L⟩ := hrel
      by_cases hlt : j < q.length
      · obtain ⟨a, rfl, hab, hac⟩ : ∃ a, A' = some a ∧ a.block < wc.heap.size ∧ ∀ (i : Nat) (x : Nat), q[i]? = some x → wc.cell? (a.add i) = some (.int .u8 (x : Nat)) := by
          rcases HA'.out with h | h
          · rw [h] at hlt; cases hlt
          · exact h
        have ca : wr.cell? (a.add j) = some (.int .u8 (q.getD j 0 : Nat)) := by
          rw [L.cell (p := a.add j) (by rw [add_block]; exact hab)]
          exact hac j _ (by rw [List.getD_eq_getElem?_getD, List.getElem?_eq_getElem hlt]; rfl)
        have h128 := Hle.out
        obtain ⟨x, hx⟩ : ∃ x, x = q.getD j 0 := ⟨_, rfl⟩
        rw [← hx] at ca
        have Hx := hide hx
        clear hx
        have cw := B.cell j
        rw [vals_get _ _ _ _ (by omega)] at cw
        have fw := B.frozen j
        have hj0 : (0 : Int) ≤ (j : Int) := by omega
        have hj1 : (j : Int) < (q.length : Int) := by omega
        have hj2 : (j : Int) < 128 := by omega
        have HB := hide B
        have HL2 := hide L
        clear B L hab hac h128
        go_wp2
        go_roundw
        case rel => exact ⟨j + 1, by omega, by go_num, by rw [Hx.out]; exact upd_vals .u8 128 (fun _ => 0) (fun t => q.getD t 0) j _ _ _ HB.out, HL2.out.setCell (Nat.le_refl _) _⟩
        case measure => simp [intOf]; omega
      · have e0 : j = q.length := by omega
        subst e0
        have HB := hide (B.cast (vals_congr .u8 128 _ (fun t => q.getD t 0) fun t _ => by
          show (if t < q.length then q.getD t 0 else 0) = q.getD t 0
          split
          · rfl
          · rw [List.getD_eq_getElem?_getD, List.getElem?_eq_none (by omega)]; rfl))
        have HL2 := hide L
        clear B L HA' hj hlt
        go_wp2
        go_loopw [8] (fun i wr => ∃ j : Nat, j ≤ 128 ∧ i = .int .i64 j ∧ Blk wr wc.heap.size (vals .u8 128 (fun t => if t < j then kb k y t else q.getD t 0)) 5 ∧ Below wc.heap.size wc wr) (fun i _ => 128 - (intOf i).toNat)
        case atStart => exact ⟨0, Nat.zero_le _, rfl, HB.out.cast (vals_congr _ _ _ _ fun j _ => by simp), HL2.out⟩
        case round =>
          clear HB HL2
          obtain ⟨j, hj, rfl, B, L⟩ := hrel
          by_cases hlt : j < 128
          · have cw := B.cell j
            rw [vals_get _ _ _ _ hlt, if_neg (by omega)] at cw
            have fw := B.frozen j
            have hj0 : (0 : Int) ≤ (j : Int) := by omega
            have hj2 : (j : Int) < 128 := by omega
            have hv := getD_lt q Hlt.out j
            have Hx : Hid (bits .xor .u8 ((q.getD j 0 : Nat) : Int) (y : Int) = ((kb k y j : Nat) : Int)) := hide (by rw [u8_xor _ _ hv Hy.out]; unfold kb; rw [Hq.out])
            generalize q.getD j 0 = x at *
            have HB := hide B
            have HL2 := hide L
            clear B L
            go_wp2
            rw [Hx.out]
            go_roundw
            case rel => exact ⟨j + 1, by omega, by go_num, upd_vals .u8 128 (fun t => q.getD t 0) (kb k y) j _ _ _ HB.out, HL2.out.setCell (Nat.le_refl _) _⟩
            case measure => simp [intOf]; omega
          · have e0 : j = 128 := by omega
            subst e0
            have HB := hide (B.cast (vals_congr .u8 128 _ (kb k y) fun t ht => by rw [if_pos ht]))
            have HL2 := hide L
            clear B L
            go_wp2
            go_ret
            exact ⟨_, rfl, keepLow2 HL.out HL2.out, HL.out.size, HB.out⟩
theorem rblock_at (A : Option Addr) (k : List Nat) (cap y : Nat) (args : Array Value) (w : World) (h : args = #[.slice A k.length cap, .int .u8 y]) (hA : Rds w A k) (hcap : k.length ≤ cap) (hk : ∀ x ∈ k, x < 256) (hn : k.length < 2 ^ 30) (hy : y < 256) :
    Calls Tryd.prog 21 args w fun e w' => ∃ b, e = .returned (.slice (some ⟨b, 0, none⟩) 128 128) ∧ Below w.heap.size w w' ∧ w.heap.size ≤ b ∧ Blk w' b (vals .u8 128 (kb k y)) 5 := by
  subst h; exact rblock_any A k cap y w hA hcap hk hn hy
theorem vals_list (n : Nat) (f : Nat → Nat) : (vals .u8 n f).toList = bv8 ((List.range n).map f) := by
  apply List.ext_getElem?
  intro i
  unfold bv8
  rw [Array.getElem?_toList, List.getElem?_map, List.getElem?_map]
  by_cases h : i < n
  · rw [vals_get _ _ _ _ h, List.getElem?_range h]; rfl
  · rw [Array.getElem?_eq_none (by rw [vals_size]; omega), List.getElem?_eq_none (by simp; omega)]; rfl
theorem own_vals {w : World} {B b n : Nat} {f : Nat → Nat} (h : Blk w b (vals .u8 n f) 5) (hg : B ≤ b) : Own w B 5 (.slice (some ⟨b, 0, none⟩) ((List.range n).map f).length n) (bv8 ((List.range n).map f)) := by
  have := own_lit h hg
  rw [vals_list, bv8_len, vals_size] at this
  exact this
end Go.Proofs.YtjnjedannpnjiaaDoor

/- Walks: putWord, read. A slice within its row; bytes below 256; no other condition. -/
import Derived.Test.YtanahjoiilfcbaaDoorCc
namespace Go.Proofs.YtanahjoiilfcbaaDoor.C
set_option maxRecDepth 100000
open Go.RowKit

/-- k bytes of a word laid from place o on. -/
def lay (f : Nat → Nat) (o x k j : Nat) : Nat := if o ≤ j ∧ j < o + k then x / 2 ^ (8 * (j - o)) % 256 else f j
theorem lay_zero (f : Nat → Nat) (o x j : Nat) : lay f o x 0 j = f j := by unfold lay; rw [if_neg (by omega)]
theorem lay_next (f : Nat → Nat) (o x k j : Nat) : (if j = o + k then x / 2 ^ (8 * k) % 256 else lay f o x k j) = lay f o x (k + 1) j := by
  unfold lay
  by_cases h : j = o + k
  · subst h
    rw [if_pos rfl, if_pos (by omega), Nat.add_sub_cancel_left]
  · rw [if_neg h]
    by_cases h2 : o ≤ j ∧ j < o + k
    · rw [if_pos h2, if_pos (by omega)]
    · rw [if_neg h2, if_neg (by omega)]
theorem fit_vals {kd : IntKind} {n : Nat} {f g : Nat → Nat} {t : TypeId} (h : Fit t (vals kd n f)) : Fit t (vals kd n g) := ⟨fun h5 => by rw [h.size h5, vals_size, vals_size], vals_one _ _ _⟩
theorem _root_.Go.Proofs.YtanahjoiilfcbaaDoor.Own.recells {u w : World} {M : List Row} {N : Nat} {c e : Array Value} {t : TypeId} (h : Own u w ((N, c, t) :: M)) (he : c = e) : Own u w ((N, e, t) :: M) := he ▸ h
/-- One number of the first row changed. -/
theorem _root_.Go.Proofs.YtanahjoiilfcbaaDoor.Own.set1 {u w : World} {M : List Row} {N n k v : Nat} {kd : IntKind} {f g : Nat → Nat} {t : TypeId} (h : Own u w ((N, vals kd n f, t) :: M)) (hg : ∀ j, j < n → (if j = k then v else f j) = g j) : Own u (w.setCell ⟨N, k, none⟩ (.int kd ((v : Nat) : Int))) ((N, vals kd n g, t) :: M) := by
  have hB := (h.row 0 rfl).set k (.int kd ((v : Nat) : Int))
  rw [vals_set, vals_congr _ _ _ _ hg] at hB
  exact h.put 0 rfl hB (st1_cell w _ _ _) (fit_vals (h.fits 0 rfl))
set_option maxHeartbeats 400000 in
theorem putWord_any (N o n len cap x : Nat) (f : Nat → Nat) (t : TypeId) (u : World) (M : List Row) (w : World) (hO : Own u w ((N, vals .u8 n f, t) :: M)) (ho : o + 4 ≤ n) (hl : 4 ≤ len) :
    Calls Tryd.prog 29 #[.slice (some ⟨N, o, none⟩) len cap, .int .u32 x] w fun e w' => e = .returned (.tuple #[]) ∧ Own u w' ((N, vals .u8 n (lay f o x 4), t) :: M) := by
  have HO := hide hO
  clear hO
  go_enter Tryd.func29, Tryd.ntmps29
  go_wp2
  go_loopw [5] (fun i wr => ∃ k : Nat, k ≤ 4 ∧ i = .int .i64 k ∧ Own u wr ((N, vals .u8 n (lay f o x k), t) :: M)) (fun i _ => 4 - (intOf i).toNat)
  case atStart => exact ⟨0, by omega, rfl, HO.out.recells (vals_congr _ _ _ _ fun j _ => (lay_zero f o x j).symm)⟩
  case round =>
    obtain ⟨k, hk, rfl, hO⟩ := hrel
    by_cases hlt : k < 4
    · have B1 := hO.row 0 rfl
      have cx := B1.cell (o + k)
      rw [vals_get _ _ _ _ (by omega)] at cx
      have fx := B1.frozen (o + k)
      have HB1 := hide hO
      clear B1 hO
      have hk0 : (0 : Int) ≤ (k : Int) := by omega
      have hk4 : (k : Int) < 4 := by omega
      have hkl : (k : Int) < (len : Int) := by omega
      have hm : IntKind.i64.wrap (8 * (k : Int)) = 8 * (k : Int) := wrap_i64_small' _ (by omega) (by omega)
      have hs0 : (0 : Int) ≤ 8 * (k : Int) := by omega
      have hs1 : 8 * (k : Int) < 32 := by omega
      have hsn : (8 * (k : Int)).toNat = 8 * k := by omega
      have Hw : Hid ((x : Int) / 2 ^ (8 * k) % 256 = ((x / 2 ^ (8 * k) % 256 : Nat) : Int)) := hide (by simp)
      go_wp2
      rw [Hw.out]
      go_roundw
      case rel => exact ⟨k + 1, by omega, by go_num, HB1.out.set1 fun j _ => lay_next f o x k j⟩
      case measure => simp [intOf]; omega
    · have e4 : k = 4 := by omega
      subst e4
      have HB1 := hide hO
      clear hO
      go_wp2
      go_end0
      exact ⟨rfl, HB1.out⟩
/-- The number that j bytes are, the lowest first. -/
def lep (g : Nat → Nat) (o : Nat) : Nat → Nat
  | 0 => 0
  | j + 1 => lep g o j + g (o + j) * 2 ^ (8 * j)
theorem lep_lt (g : Nat → Nat) (hg : ∀ i, g i < 256) (o : Nat) : ∀ j, lep g o j < 2 ^ (8 * j)
  | 0 => by simp [lep]
  | j + 1 => by
    have h1 := lep_lt g hg o j
    have h2 := hg (o + j)
    rw [lep, show 8 * (j + 1) = 8 * j + 8 by omega, Nat.pow_add]
    have h3 : (g (o + j) + 1) * 2 ^ (8 * j) ≤ 256 * 2 ^ (8 * j) := Nat.mul_le_mul_right _ h2
    rw [Nat.add_mul, Nat.one_mul] at h3
    rw [Nat.mul_comm (2 ^ (8 * j)) (2 ^ 8)]
    generalize g (o + j) * 2 ^ (8 * j) = a at *
    generalize 2 ^ (8 * j) = b at *
    omega
theorem lep_four (g : Nat → Nat) (o : Nat) : lep g o 4 = le4 g o := by
  simp [lep, le4]
theorem lep_step (g : Nat → Nat) (hg : ∀ i, g i < 256) (o j : Nat) (hj : j < 4) : bits .or .u32 ((lep g o j : Nat) : Int) (((g (o + j) : Nat) : Int) * 2 ^ (8 * j) % 4294967296) = ((lep g o (j + 1) : Nat) : Int) := by
  have h1 := lep_lt g hg o j
  have h2 := hg (o + j)
  have h3 := lep_lt g hg o (j + 1)
  have h4 : 2 ^ (8 * (j + 1)) ≤ 4294967296 := Nat.pow_le_pow_right (i := 8 * (j + 1)) (j := 32) (Nat.zero_lt_two) (by omega)
  have h5 : lep g o (j + 1) = lep g o j + g (o + j) * 2 ^ (8 * j) := rfl
  rw [show ((g (o + j) : Nat) : Int) * 2 ^ (8 * j) % 4294967296 = ((g (o + j) * 2 ^ (8 * j) : Nat) : Int) by
    rw [show ((g (o + j) : Nat) : Int) * 2 ^ (8 * j) = ((g (o + j) * 2 ^ (8 * j) : Nat) : Int) by simp]
    omega]
  rw [u32_or_nat _ _ (by omega) (by omega), h5]
  congr 1
  rw [Nat.or_comm, nat_join (8 * j) _ _ (Nat.mul_mod_left _ _) h1, Nat.add_comm]
/-- k words read from place o on. -/
def rdw (f : Nat → Nat) (o : Nat) (g : Nat → Nat) (k j : Nat) : Nat := if o ≤ j ∧ j < o + k then le4 g (4 * (j - o)) else f j
theorem rdw_zero (f : Nat → Nat) (o : Nat) (g : Nat → Nat) (j : Nat) : rdw f o g 0 j = f j := by unfold rdw; rw [if_neg (by omega)]
theorem rdw_next (f : Nat → Nat) (o : Nat) (g : Nat → Nat) (k j : Nat) : (if j = o + k then le4 g (4 * k) else rdw f o g k j) = rdw f o g (k + 1) j := by
  unfold rdw
  by_cases h : j = o + k
  · subst h
    rw [if_pos rfl, if_pos (by omega), Nat.add_sub_cancel_left]
  · rw [if_neg h]
    by_cases h2 : o ≤ j ∧ j < o + k
    · rw [if_pos h2, if_pos (by omega)]
    · rw [if_neg h2, if_neg (by omega)]
set_option maxHeartbeats 400000 in
theorem read_any (N o n m cap B mb : Nat) (f g : Nat → Nat) (tb : TypeId) (hg : ∀ i, g i < 256) (u : World) (M : List Row) (w : World) (hO : Own u w ((N, vals .u32 16 f, 46) :: (B, vals .u8 mb g, tb) :: M)) (ho : o + n ≤ 16) (hm : 4 * n ≤ m) (hmb : m ≤ mb) (hb : mb < 100) (hn : n < 100) :
    Calls Tryd.prog 41 #[.slice (some ⟨N, o, none⟩) n cap, .slice (some ⟨B, 0, none⟩) m m] w fun e w' => e = .returned (.tuple #[]) ∧ Own u w' ((N, vals .u32 16 (rdw f o g n), 46) :: (B, vals .u8 mb g, tb) :: M) := by
  have HO := hide hO
  have Hg := hide hg
  have Hh := hide ho
  have Hm := hide hm
  have Hmb := hide hmb
  have Hb := hide hb
  have Hn := hide hn
  clear hO hg ho hm hmb hb hn
  go_enter Tryd.func41, Tryd.ntmps41
  go_wp2
  go_loopw [10] (fun i wr => ∃ k : Nat, k ≤ n ∧ i = .int .i64 k ∧ Own u wr ((N, vals .u32 16 (rdw f o g k), 46) :: (B, vals .u8 mb g, tb) :: M)) (fun i _ => n - (intOf i).toNat)
  case atStart => exact ⟨0, by omega, rfl, HO.out.recells (vals_congr _ _ _ _ fun j _ => (rdw_zero f o g j).symm)⟩
  case round =>
    obtain ⟨k, hk, rfl, hO⟩ := hrel
    have ho := Hh.out
    have hm := Hm.out
    have hmb := Hmb.out
    have hb := Hb.out
    have hn := Hn.out
    by_cases hlt : k < n
    · have HB1 := hide hO
      have hk0 : (0 : Int) ≤ (k : Int) := by omega
      have hk4 : (k : Int) < (n : Int) := by omega
      have hm1 : IntKind.i64.wrap (4 * (k : Int)) = 4 * (k : Int) := wrap_i64_small' _ (by omega) (by omega)
      have hm2 : IntKind.i64.wrap (4 * (k : Int) + 4) = 4 * (k : Int) + 4 := wrap_i64_small' _ (by omega) (by omega)
      have hm0 : (0 : Int) ≤ 4 * (k : Int) := by omega
      have hm4 : 4 * (k : Int) ≤ 4 * (k : Int) + 4 := by omega
      have hm3 : 4 * (k : Int) + 4 ≤ (m : Int) := by omega
      have hn1 : (4 * (k : Int)).toNat = 4 * k := by omega
      have hn2 : (4 * (k : Int) + 4).toNat = 4 * k + 4 := by omega
      have hne : ¬ m = 4 * k := by omega
      have B2 := (hO.row 1 rfl).rules
      have HB2 := hide (hO.row 1 rfl)
      have HB3 := hide (hO.row 0 rfl)
      clear hO hlt hk B2 hm hmb hb hn ho
      go_wp2
      go_loop [5, 21] (fun x i => ∃ j : Nat, j ≤ 4 ∧ i = .int .i64 j ∧ x = .int .u32 (lep g (4 * k) j : Nat)) (fun _ i => 4 - (intOf i).toNat)
      case atStart => exact ⟨0, by omega, rfl, rfl⟩
      case round =>
        obtain ⟨j, hj, rfl, rfl⟩ := hrel
        have hm := Hm.out
        have hmb := Hmb.out
        have hb := Hb.out
        have hn := Hn.out
        by_cases hlj : j < 4
        · have cx := HB2.out.cell (4 * k + j)
          rw [vals_get _ _ _ _ (by omega)] at cx
          have hj0 : (0 : Int) ≤ (j : Int) := by omega
          have hj8 : (j : Int) < 4 := by omega
          have hs0 : (0 : Int) ≤ 8 * (j : Int) := by omega
          have hm5 : IntKind.i64.wrap (8 * (j : Int)) = 8 * (j : Int) := wrap_i64_small' _ (by omega) (by omega)
          have hs1 : 8 * (j : Int) < 32 := by omega
          have hsn : (8 * (j : Int)).toNat = 8 * j := by omega
          have hs2 : min (8 * j) 32 = 8 * j := by omega
          have hgl := Hg.out (4 * k + j)
          have hgm : ((g (4 * k + j) : Nat) : Int) % 4294967296 = ((g (4 * k + j) : Nat) : Int) := by omega
          clear hgl
          have Hb2 := hide (lep_step g Hg.out (4 * k) j hlj)
          clear hm hmb hb hn
          go_wp2
          rw [Hb2.out]
          go_round
          case rel => exact ⟨j + 1, by omega, by go_num, rfl⟩
          case measure => simp [intOf]; omega
        · have e8 : j = 4 := by omega
          subst e8
          have cx := HB3.out.cell (o + k)
          have ho := Hh.out
          rw [vals_get _ _ _ _ (by omega)] at cx
          have fx := HB3.out.frozen (o + k)
          have Hw := hide (lep_four g (4 * k))
          have hwk : wrap64 ((k : Int) + 1) = (k : Int) + 1 := by unfold wrap64; omega
          have hw0 : IntKind.i64.wrap ((k : Int) + 1) = (k : Int) + 1 := wrap_i64_small' _ (by omega) (by omega)
          clear hm hmb hb hn ho
          go_wp2
          rw [Hw.out]
          go_roundw
          case rel => exact ⟨k + 1, by omega, by go_num, HB1.out.set1 fun j _ => rdw_next f o g k j⟩
          case measure => simp [intOf]; omega
    · have e4 : k = n := by omega
      subst e4
      have HB1 := hide hO
      clear hO hm hmb hb hn ho
      go_wp2
      go_end0
      exact ⟨rfl, HB1.out⟩
end Go.Proofs.YtanahjoiilfcbaaDoor.C
